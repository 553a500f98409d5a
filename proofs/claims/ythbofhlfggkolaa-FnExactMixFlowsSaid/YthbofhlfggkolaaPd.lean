/-
  Contracts of chapter 13: shares of gas, flows that dilute; the model's and the program's. Conditions: those that each theorem states.
-/
import Derived.Test.YthbofhlfggkolaaPw
import Derived.Deep.LoopGhost
namespace Go.Proofs.Ythbofhlfggkolaa
open Go.RowKit
set_option linter.unusedVariables false
set_option linter.unusedSimpArgs false

theorem hide {p : Prop} (h : p) : Hid p := h
theorem unhide {p : Prop} (h : Hid p) : p := h
/-- A quotient, rounded up. -/
def cdv (a b : Int) : Int := (a + b - 1) / b
theorem cdv_le {a b s : Int} (hb : 1 ≤ b) : cdv a b ≤ s ↔ a ≤ s * b := by
  unfold cdv
  rw [← Int.lt_add_one_iff, Int.ediv_lt_iff_lt_mul (by omega), Int.add_mul, Int.one_mul]
  omega
theorem cdv_bd {a b : Int} (ha : 0 ≤ a) (hb : 1 ≤ b) : 0 ≤ cdv a b ∧ cdv a b ≤ a := by
  constructor
  · unfold cdv; exact Int.ediv_nonneg (by omega) (by omega)
  · rw [cdv_le hb]
    have : a * 1 ≤ a * b := Int.mul_le_mul_of_nonneg_left hb ha
    omega
/-- The share of a rate in a flow. -/
def shG (r q : Int) : Int := if cdv (100 * r) q ≤ 1000000 then cdv (100 * r) q else 1000000
theorem shG_bd {r q : Int} (hr : 0 ≤ r) (hq : 1 ≤ q) : 0 ≤ shG r q ∧ shG r q ≤ 1000000 := by
  have := cdv_bd (a := 100 * r) (b := q) (by omega) hq
  unfold shG
  split <;> omega
/-- The least flow with at most a share. -/
def dlG (r s : Int) : Int := if s = 1000000 then 1 else if 1 ≤ cdv (100 * r) s then cdv (100 * r) s else 1
theorem dlG_pos (r s : Int) : 1 ≤ dlG r s := by unfold dlG; split <;> (try split) <;> omega
theorem dlG_iff {r s q : Int} (hr : 0 ≤ r) (hs : 1 ≤ s) (hs2 : s ≤ 1000000) (hq : 1 ≤ q) : shG r q ≤ s ↔ dlG r s ≤ q := by
  have hb := shG_bd hr hq
  unfold dlG
  by_cases h : s = 1000000
  · rw [if_pos h]
    exact ⟨fun _ => hq, fun _ => by omega⟩
  · rw [if_neg h]
    have e1 : shG r q ≤ s ↔ cdv (100 * r) q ≤ s := by unfold shG; split <;> omega
    have e2 := cdv_le (a := 100 * r) (b := q) (s := s) hq
    have e3 := cdv_le (a := 100 * r) (b := s) (s := q) hs
    rw [Int.mul_comm q s] at e3
    rw [e1, e2]
    split <;> omega
theorem dlG_bd {r s : Int} (hr : 0 ≤ r) (hr2 : r ≤ 10000000) (hs : 1 ≤ s) : dlG r s ≤ 1000000000 := by
  have := cdv_bd (a := 100 * r) (b := s) (by omega) hs
  unfold dlG
  split
  · omega
  · split <;> omega
/-- What the functions return. -/
def sfA (r q : Int) : Int := if inB r 0 10000000 && inB q 0 100000 then (if q = 0 then 0 else shG r q) else 0
def sfB (r q : Int) : Int := if inB r 0 10000000 && inB q 0 100000 then (if q = 0 then 6 else 0) else 2
def dfA (r s : Int) : Int := if inB r 0 10000000 && inB s 1 1000000 then (if dlG r s ≤ 100000 then dlG r s else 0) else 0
def dfB (r s : Int) : Int := if inB r 0 10000000 && inB s 1 1000000 then (if dlG r s ≤ 100000 then 0 else 3) else 2
theorem roundedUp_g (a b : Int) (w : World) (h1 : 0 ≤ a) (h2 : a ≤ 1000000000000000000) (h3 : 1 ≤ b) (h4 : b ≤ 1000000000000000000) : Calls Try.prog 83 #[.int .i64 a, .int .i64 b] w fun e w' => e = .returned (.int .i64 (cdv a b)) ∧ w = w' := by
  go_enter Try.func83, Try.ntmps83
  go_wp2
  go_ret
  exact ⟨rfl, rfl⟩
theorem l13Share_any (r q : Int) (w : World) (h1 : 0 ≤ r ∧ r ≤ 100000000) (h2 : 1 ≤ q ∧ q ≤ 100000) :
    Calls Try.prog 49 #[.int .i64 r, .int .i64 q] w fun e w' => e = .returned (.int .i64 (shG r q)) ∧ w = w' := by
  have hb := cdv_bd (a := 100 * r) (b := q) (by omega) h2.1
  have HE := Lib.hid (show shG r q = (if 1000000 < (100 * r + q - 1) / q then 1000000 else (100 * r + q - 1) / q) by unfold shG cdv; split <;> split <;> omega)
  obtain ⟨a1, a2⟩ := h1
  obtain ⟨a3, a4⟩ := h2
  unfold cdv at hb
  obtain ⟨a5, a6⟩ := hb
  go_enter Try.func49, Try.ntmps49
  go_wp2_with fail
  (with_reducible refine (l00Min_any _ _ _).mono ?_)
  rintro e w' ⟨rfl, rfl⟩
  rw [← HE.out]
  go_wp2
  go_ret
  exact ⟨rfl, rfl⟩
theorem shareIn_any (r q : Int) (w : World) (h1 : 0 ≤ r ∧ r ≤ 100000000) (h2 : 1 ≤ q ∧ q ≤ 100000) :
    Calls Try.prog 52 #[.int .i64 r, .int .i64 q] w fun e w' => e = .returned (.int .i64 (shG r q)) ∧ w = w' := by
  have hb := cdv_bd (a := 100 * r) (b := q) (by omega) h2.1
  have HE := Lib.hid (show shG r q = (if cdv (100 * r) q ≤ 1000000 then cdv (100 * r) q else 1000000) from rfl)
  obtain ⟨a1, a2⟩ := h1
  obtain ⟨a3, a4⟩ := h2
  obtain ⟨a5, a6⟩ := hb
  by_cases hc : cdv (100 * r) q ≤ 1000000
  · go_enter Try.func52, Try.ntmps52
    go_wp2_with fail
    (with_reducible refine (roundedUp_g _ _ _ (by omega) (by omega) (by omega) (by omega)).mono ?_)
    rintro e w' ⟨rfl, rfl⟩
    go_wp2
    go_ret
    exact ⟨ret_int (by rw [HE.out]; first | rfl | (simp [hc]; done) | (simp [hc]; omega)), rfl⟩
  · go_enter Try.func52, Try.ntmps52
    go_wp2_with fail
    (with_reducible refine (roundedUp_g _ _ _ (by omega) (by omega) (by omega) (by omega)).mono ?_)
    rintro e w' ⟨rfl, rfl⟩
    go_wp2
    go_ret
    exact ⟨ret_int (by rw [HE.out]; first | rfl | (simp [hc]; done) | (simp [hc]; omega)), rfl⟩
theorem isRate_any (n : Int) (w : World) : Calls Try.prog 50 #[.int .i64 n] w fun e w' => e = .returned (.bool (inB n 0 10000000)) ∧ Below w.heap.size w w' := by
  go_enter Try.func50, Try.ntmps50
  go_wp2_with (go_at_call 54; (with_reducible refine (within64_one _ _ _ _ _ _ (by simp)).mono ?_); rintro e w' ⟨rfl, rfl⟩)
  go_ret
  exact ⟨rfl, below_box _ _⟩
theorem sShareFor_any (r q : Int) (w : World) :
    Calls Try.prog 17 #[.int .i64 r, .int .i64 q] w fun e w' => e = .returned (.tuple #[.int .i64 (sfA r q), .int .i64 (sfB r q)]) ∧ Below w.heap.size w w' := by
  by_cases h1 : 0 ≤ r ∧ r ≤ 10000000
  · have i1 := inB_true h1.1 h1.2
    by_cases h2 : 0 ≤ q ∧ q ≤ 100000
    · have i2 := inB_true h2.1 h2.2
      by_cases h0 : q = 0
      · subst h0
        have HE := Lib.hid (show sfA r 0 = 0 ∧ sfB r 0 = 6 by simp [sfA, sfB, i1, i2])
        go_enter Try.func17, Try.ntmps17
        go_wp2_with (first
              | (go_at_call 48; (with_reducible refine (l00In_any _ _ _ _).mono ?_); rintro e w' ⟨rfl, rfl⟩)
              | (go_at_call 48; (with_reducible refine (l00In_any _ _ _ _).mono ?_); rintro e w' ⟨rfl, rfl⟩))
        go_ret2
        exact ⟨ret_two HE.out.1.symm HE.out.2.symm, Below.refl _ _⟩
      · have hq0 : 1 ≤ q := by omega
        have HE := Lib.hid (show sfA r q = shG r q ∧ sfB r q = 0 by simp [sfA, sfB, i1, i2, h0])
        go_enter Try.func17, Try.ntmps17
        go_wp2_with (first
              | (go_at_call 48; (with_reducible refine (l00In_any _ _ _ _).mono ?_); rintro e w' ⟨rfl, rfl⟩)
              | (go_at_call 48; (with_reducible refine (l00In_any _ _ _ _).mono ?_); rintro e w' ⟨rfl, rfl⟩)
              | (go_at_call 49; (with_reducible refine (l13Share_any r q w ⟨h1.1, by omega⟩ ⟨by omega, h2.2⟩).mono ?_); rintro e w' ⟨rfl, rfl⟩))
        go_ret2
        exact ⟨ret_two HE.out.1.symm HE.out.2.symm, Below.refl _ _⟩
    · have i2 := inB_false h2
      have HE := Lib.hid (show sfA r q = 0 ∧ sfB r q = 2 by simp [sfA, sfB, i2])
      go_enter Try.func17, Try.ntmps17
      go_wp2_with (first
            | (go_at_call 48; (with_reducible refine (l00In_any _ _ _ _).mono ?_); rintro e w' ⟨rfl, rfl⟩)
            | (go_at_call 48; (with_reducible refine (l00In_any _ _ _ _).mono ?_); rintro e w' ⟨rfl, rfl⟩))
      go_ret2
      exact ⟨ret_two HE.out.1.symm HE.out.2.symm, Below.refl _ _⟩
  · have i1 := inB_false h1
    have HE := Lib.hid (show sfA r q = 0 ∧ sfB r q = 2 by simp [sfA, sfB, i1])
    go_enter Try.func17, Try.ntmps17
    go_wp2_with (first
          | (go_at_call 48; (with_reducible refine (l00In_any _ _ _ _).mono ?_); rintro e w' ⟨rfl, rfl⟩))
    go_ret2
    exact ⟨ret_two HE.out.1.symm HE.out.2.symm, Below.refl _ _⟩
theorem iShareFor_any (r q : Int) (w : World) :
    Calls Try.prog 18 #[.int .i64 r, .int .i64 q] w fun e w' => e = .returned (.tuple #[.int .i64 (sfA r q), .int .i64 (sfB r q)]) ∧ Below w.heap.size w w' := by
  by_cases h1 : 0 ≤ r ∧ r ≤ 10000000
  · have i1 := inB_true h1.1 h1.2
    by_cases h2 : 0 ≤ q ∧ q ≤ 100000
    · have i2 := inB_true h2.1 h2.2
      by_cases h0 : q = 0
      · subst h0
        have HE := Lib.hid (show sfA r 0 = 0 ∧ sfB r 0 = 6 by simp [sfA, sfB, i1, i2])
        go_enter Try.func18, Try.ntmps18
        go_wp2_with fail
        (with_reducible refine (isRate_any r w).mono ?_)
        rintro e w1 ⟨rfl, hd1⟩
        have HB1 := Lib.hid hd1
        clear hd1
        go_wp2_with fail
        (with_reducible refine (areForward_oneB 0 w1 _ _ (by simp)).mono ?_)
        rintro e w2 ⟨rfl, hd2⟩
        have HB2 := Lib.hid (HB1.out.trans (hd2.mono HB1.out.size))
        clear hd2
        go_wp2
        go_ret2
        exact ⟨ret_two HE.out.1.symm HE.out.2.symm, HB2.out⟩
      · have hq0 : 1 ≤ q := by omega
        have HE := Lib.hid (show sfA r q = shG r q ∧ sfB r q = 0 by simp [sfA, sfB, i1, i2, h0])
        go_enter Try.func18, Try.ntmps18
        go_wp2_with fail
        (with_reducible refine (isRate_any r w).mono ?_)
        rintro e w1 ⟨rfl, hd1⟩
        have HB1 := Lib.hid hd1
        clear hd1
        go_wp2_with fail
        (with_reducible refine (areForward_oneB q w1 _ _ (by simp)).mono ?_)
        rintro e w2 ⟨rfl, hd2⟩
        have HB2 := Lib.hid (HB1.out.trans (hd2.mono HB1.out.size))
        clear hd2
        go_wp2_with fail
        (with_reducible refine (shareIn_any r q w2 ⟨h1.1, by omega⟩ ⟨by omega, h2.2⟩).mono ?_)
        rintro e w' ⟨rfl, rfl⟩
        go_wp2
        go_ret2
        exact ⟨ret_two HE.out.1.symm HE.out.2.symm, HB2.out⟩
    · have i2 := inB_false h2
      have HE := Lib.hid (show sfA r q = 0 ∧ sfB r q = 2 by simp [sfA, sfB, i2])
      go_enter Try.func18, Try.ntmps18
      go_wp2_with fail
      (with_reducible refine (isRate_any r w).mono ?_)
      rintro e w1 ⟨rfl, hd1⟩
      have HB1 := Lib.hid hd1
      clear hd1
      go_wp2_with fail
      (with_reducible refine (areForward_oneB q w1 _ _ (by simp)).mono ?_)
      rintro e w2 ⟨rfl, hd2⟩
      have HB2 := Lib.hid (HB1.out.trans (hd2.mono HB1.out.size))
      clear hd2
      go_wp2
      go_ret2
      exact ⟨ret_two HE.out.1.symm HE.out.2.symm, HB2.out⟩
  · have i1 := inB_false h1
    have HE := Lib.hid (show sfA r q = 0 ∧ sfB r q = 2 by simp [sfA, sfB, i1])
    go_enter Try.func18, Try.ntmps18
    go_wp2_with fail
    (with_reducible refine (isRate_any r w).mono ?_)
    rintro e w1 ⟨rfl, hd1⟩
    have HB1 := Lib.hid hd1
    clear hd1
    go_wp2
    go_ret2
    exact ⟨ret_two HE.out.1.symm HE.out.2.symm, HB1.out⟩
theorem maxD_any (y : Int) (w : World) : Calls Try.prog 53 #[.int .i64 1, .int .i64 y] w fun e w' => (∃ m : Int, e = .returned (.int .i64 m) ∧ 1 ≤ m ∧ (m = 1 ∨ m = y)) ∧ w = w' :=
  (l00Max_any 1 y w).mono fun _ _ ⟨a, b⟩ => ⟨⟨_, a, by split <;> omega, by split <;> omega⟩, b⟩
theorem maxE_any (y d : Int) (w : World) (h : (if y < 1 then 1 else y) = d) : Calls Try.prog 53 #[.int .i64 1, .int .i64 y] w fun e w' => e = .returned (.int .i64 d) ∧ w = w' :=
  (l00Max_any 1 y w).mono fun _ _ ⟨a, b⟩ => ⟨a.trans (ret_int h), b⟩
theorem sDiluteFlow_any (r s : Int) (w : World) :
    Calls Try.prog 19 #[.int .i64 r, .int .i64 s] w fun e w' => e = .returned (.tuple #[.int .i64 (dfA r s), .int .i64 (dfB r s)]) ∧ Below w.heap.size w w' := by
  by_cases h1 : 0 ≤ r ∧ r ≤ 10000000
  · have i1 := inB_true h1.1 h1.2
    by_cases h2 : 1 ≤ s ∧ s ≤ 1000000
    · have i2 := inB_true h2.1 h2.2
      have hb := cdv_bd (a := 100 * r) (b := s) (by omega) h2.1
      unfold cdv at hb
      have HD := Lib.hid (show dlG r s = (if s = 1000000 then 1 else if (100 * r + s - 1) / s < 1 then 1 else (100 * r + s - 1) / s) by unfold dlG cdv; split <;> (try split) <;> (try split) <;> omega)
      have HF := Lib.hid (show dfA r s = (if dlG r s ≤ 100000 then dlG r s else 0) ∧ dfB r s = (if dlG r s ≤ 100000 then 0 else 3) by simp [dfA, dfB, i1, i2])
      have hdb := dlG_bd (s := s) h1.1 h1.2 h2.1
      have hdp := dlG_pos r s
      obtain ⟨a1, a2⟩ := h1
      obtain ⟨a3, a4⟩ := h2
      obtain ⟨a5, a6⟩ := hb
      by_cases hs : s = 1000000
      · have HX := Lib.hid (show dlG r s = 1 by rw [HD.out, if_pos hs])
        have HE := Lib.hid (show dfA r s = 1 ∧ dfB r s = 0 by rw [HF.out.1, HF.out.2, HX.out]; exact ⟨rfl, rfl⟩)
        clear hdb hdp
        go_enter Try.func19, Try.ntmps19
        go_wp2_with (first
          | (go_at_call 48; (with_reducible refine (l00In_any _ _ _ _).mono ?_); rintro e w' ⟨rfl, rfl⟩)
          | (go_at_call 53; (with_reducible refine (maxD_any _ _).mono ?_); rintro e w' ⟨⟨mx, rfl, hm1, hm2⟩, rfl⟩))
        go_ret2
        exact ⟨ret_two HE.out.1.symm HE.out.2.symm, Below.refl _ _⟩
      · have HX := Lib.hid (show (if (100 * r + s - 1) / s < 1 then 1 else (100 * r + s - 1) / s) = dlG r s by rw [HD.out, if_neg hs])
        by_cases hl : dlG r s ≤ 100000
        · have HE := Lib.hid (show dfA r s = dlG r s ∧ dfB r s = 0 by rw [HF.out.1, HF.out.2, if_pos hl, if_pos hl]; exact ⟨rfl, rfl⟩)
          go_enter Try.func19, Try.ntmps19
          go_wp2_with (first
            | (go_at_call 48; (with_reducible refine (l00In_any _ _ _ _).mono ?_); rintro e w' ⟨rfl, rfl⟩)
            | (go_at_call 53; (with_reducible refine (maxE_any _ _ _ HX.out).mono ?_); rintro e w' ⟨rfl, rfl⟩))
          go_ret2
          exact ⟨ret_two HE.out.1.symm HE.out.2.symm, Below.refl _ _⟩
        · have HE := Lib.hid (show dfA r s = 0 ∧ dfB r s = 3 by rw [HF.out.1, HF.out.2, if_neg hl, if_neg hl]; exact ⟨rfl, rfl⟩)
          go_enter Try.func19, Try.ntmps19
          go_wp2_with (first
            | (go_at_call 48; (with_reducible refine (l00In_any _ _ _ _).mono ?_); rintro e w' ⟨rfl, rfl⟩)
            | (go_at_call 53; (with_reducible refine (maxE_any _ _ _ HX.out).mono ?_); rintro e w' ⟨rfl, rfl⟩))
          go_ret2
          exact ⟨ret_two HE.out.1.symm HE.out.2.symm, Below.refl _ _⟩
    · have i2 := inB_false h2
      have HE := Lib.hid (show dfA r s = 0 ∧ dfB r s = 2 by simp [dfA, dfB, i2])
      go_enter Try.func19, Try.ntmps19
      go_wp2_with (first
            | (go_at_call 48; (with_reducible refine (l00In_any _ _ _ _).mono ?_); rintro e w' ⟨rfl, rfl⟩)
            | (go_at_call 48; (with_reducible refine (l00In_any _ _ _ _).mono ?_); rintro e w' ⟨rfl, rfl⟩))
      go_ret2
      exact ⟨ret_two HE.out.1.symm HE.out.2.symm, Below.refl _ _⟩
  · have i1 := inB_false h1
    have HE := Lib.hid (show dfA r s = 0 ∧ dfB r s = 2 by simp [dfA, dfB, i1])
    go_enter Try.func19, Try.ntmps19
    go_wp2_with (first
          | (go_at_call 48; (with_reducible refine (l00In_any _ _ _ _).mono ?_); rintro e w' ⟨rfl, rfl⟩))
    go_ret2
    exact ⟨ret_two HE.out.1.symm HE.out.2.symm, Below.refl _ _⟩
theorem quiet_g {P : Program} {f : FuncId} {args : Array Value} {w : World} {n : Nat} {v : Value}
    (h : Calls P f args (w.drewN n) fun e w' => e = .returned v ∧ w.drewN n = w') : Calls P f args (w.drewN n) fun e w'' => e = .returned v ∧ ∃ m, w'' = w.drewN m :=
  h.mono fun _ _ ⟨he, hm⟩ => ⟨he, n, hm.symm⟩
theorem dilutes_any (br bs : Nat) (r s q : Int) (w : World) (c0 : w.cell? ⟨br, 0, none⟩ = some (.int .i64 r)) (c1 : w.cell? ⟨bs, 0, none⟩ = some (.int .i64 s)) (h1 : 0 ≤ r ∧ r ≤ 100000000) (h2 : 1 ≤ q ∧ q ≤ 100000) :
    Calls Try.prog 56 #[.int .i64 q, .pointer (some ⟨br, 0, none⟩), .pointer (some ⟨bs, 0, none⟩)] w fun e w' => e = .returned (.bool (decide (shG r q ≤ s))) ∧ Below w.heap.size w w' := by
  go_enter Try.func56, Try.ntmps56
  go_wp2
  go_quiet ((go_at_call 52; exact quiet_g (shareIn_any r q _ h1 h2)))
  go_wp2
  go_ret
  exact ⟨rfl, below_drewN' (Below.refl _ _) _⟩
theorem stepD (br bs : Nat) (p : Int → Bool) (lo : Int) (i : Nat) (bf bl : Nat) (w1 : World) (c0 : w1.cell? ⟨bf, 0, none⟩ = some (.func (.func 56) #[] #[.pointer (some ⟨br, 0, none⟩), .pointer (some ⟨bs, 0, none⟩)])) (c1 : w1.cell? ⟨bl, 0, none⟩ = some (.int .i64 lo))
    (h1 : -1000000 ≤ lo ∧ lo ≤ 1000000) (h2 : i ≤ 1000000) (hf : Calls Try.prog 56 #[.int .i64 (lo + (i : Int)), .pointer (some ⟨br, 0, none⟩), .pointer (some ⟨bs, 0, none⟩)] w1 fun e w2 => e = .returned (.bool (p (lo + (i : Int)))) ∧ Below w1.heap.size w1 w2) :
    Calls Try.prog 87 #[.int .i64 (i : Int), .pointer (some ⟨bf, 0, none⟩), .pointer (some ⟨bl, 0, none⟩)] w1 fun e w2 => e = .returned (.bool (p (lo + (i : Int)))) ∧ Below w1.heap.size w1 w2 := by
  have HF := hide hf
  clear hf
  go_enter Try.func87, Try.ntmps87
  go_wp2_with (go_at_call 56; refine (unhide HF).mono ?_; rintro e w2 ⟨rfl, hb⟩)
  go_ret
  exact ⟨rfl, hb⟩
theorem searchD (br bs : Nat) (p : Int → Bool) (lo : Int) (n m : Nat) (bf bl : Nat) (w : World) (c0 : w.cell? ⟨bf, 0, none⟩ = some (.func (.func 56) #[] #[.pointer (some ⟨br, 0, none⟩), .pointer (some ⟨bs, 0, none⟩)])) (c1 : w.cell? ⟨bl, 0, none⟩ = some (.int .i64 lo))
    (h1 : -1000000 ≤ lo ∧ lo ≤ 1000000) (h2 : n ≤ 1000000) (hm : m ≤ n) (hl : ∀ t, t < m → p (lo + (t : Int)) = false) (hh : ∀ t, m ≤ t → t < n → p (lo + (t : Int)) = true)
    (hf : ∀ (x : Int) (w1 : World), lo ≤ x → x < lo + n → Below w.heap.size w w1 → Calls Try.prog 56 #[.int .i64 x, .pointer (some ⟨br, 0, none⟩), .pointer (some ⟨bs, 0, none⟩)] w1 fun e w2 => e = .returned (.bool (p x)) ∧ Below w1.heap.size w1 w2) :
    Calls Try.prog 86 #[.int .i64 (n : Int), .func (.func 87) #[] #[.pointer (some ⟨bf, 0, none⟩), .pointer (some ⟨bl, 0, none⟩)]] w fun e w2 => e = .returned (.int .i64 (m : Int)) ∧ Below w.heap.size w w2 := by
  have HF := Lib.hid hf
  have HL := Lib.hid hl
  have HH := Lib.hid hh
  have C0 := Lib.hid c0
  have C1 := Lib.hid c1
  clear hf hl hh c0 c1
  go_enter Try.func86, Try.ntmps86
  go_wp2
  go_loopw [5, 6] (fun x y wr => ∃ a b : Nat, x = .int .i64 a ∧ y = .int .i64 b ∧ (a ≤ m ∧ m ≤ b) ∧ b ≤ n ∧ Below w.heap.size w wr) (fun x y wr => (intOf y).toNat - (intOf x).toNat)
  case atStart => exact ⟨0, n, rfl, rfl, ⟨by omega, hm⟩, by omega, Below.refl _ _⟩
  case round =>
    obtain ⟨a, b, rfl, rfl, ⟨hab, hmb⟩, hbn, hbel⟩ := hrel
    by_cases hlt : a < b
    · have hc0 := (hbel.cell (World.block_lt_of_cell? _ _ C0.out)).trans C0.out
      have hc1 := (hbel.cell (World.block_lt_of_cell? _ _ C1.out)).trans C1.out
      have hs := stepD br bs p lo ((a + b) / 2) bf bl wr hc0 hc1 h1 (by omega) (HF.out _ _ (by omega) (by omega) hbel)
      rw [show (((a + b) / 2 : Nat) : Int) = ((a : Int) + (b : Int)) / 2 by omega] at hs
      cases hp : p (lo + ((a : Int) + (b : Int)) / 2)
      · rw [hp] at hs
        have hx : (a + b) / 2 < m := by
          apply Nat.lt_of_not_le; intro hle
          have := HH.out ((a + b) / 2) hle (by omega)
          rw [show (((a + b) / 2 : Nat) : Int) = ((a : Int) + (b : Int)) / 2 by omega, hp] at this
          cases this
        have HS := hide hs
        have HP := Lib.hid hp
        have HB := Lib.hid hbel
        clear hs hp hc0 hc1 hbel
        go_wp2_with (go_at_call 87; refine (unhide HS).mono ?_; rintro e w2 ⟨rfl, hb2⟩)
        go_roundw
        case rel => exact ⟨(a + b) / 2 + 1, b, by rw [show ((a : Int) + (b : Int)) / 2 + 1 = (((a + b) / 2 + 1 : Nat) : Int) by omega], rfl, ⟨by omega, hmb⟩, hbn, HB.out.trans (hb2.mono HB.out.size)⟩
        case measure => simp [intOf]; omega
      · rw [hp] at hs
        have hx : m ≤ (a + b) / 2 := by
          apply Nat.le_of_not_lt; intro hle
          have := HL.out ((a + b) / 2) hle
          rw [show (((a + b) / 2 : Nat) : Int) = ((a : Int) + (b : Int)) / 2 by omega, hp] at this
          cases this
        have HS := hide hs
        have HP := Lib.hid hp
        have HB := Lib.hid hbel
        clear hs hp hc0 hc1 hbel
        go_wp2_with (go_at_call 87; refine (unhide HS).mono ?_; rintro e w2 ⟨rfl, hb2⟩)
        go_roundw
        case rel => exact ⟨a, (a + b) / 2, rfl, by rw [show ((a : Int) + (b : Int)) / 2 = (((a + b) / 2 : Nat) : Int) by omega], ⟨hab, hx⟩, by omega, HB.out.trans (hb2.mono HB.out.size)⟩
        case measure => simp [intOf]; omega
    · obtain rfl : m = a := by omega
      go_wp2
      go_ret
      exact ⟨rfl, hbel⟩
theorem leastD (br bs : Nat) (p : Int → Bool) (lo hi : Int) (n m : Nat) (w : World) (h1 : -1000000 ≤ lo ∧ lo ≤ 1000000) (h3 : (n : Int) = hi - lo + 1) (h4 : hi ≤ 900000) (h5 : lo ≤ hi) (h6 : n ≤ 1000000) (hm : m ≤ n)
    (hl : ∀ t, t < m → p (lo + (t : Int)) = false) (hh : ∀ t, m ≤ t → t < n → p (lo + (t : Int)) = true)
    (hf : ∀ (x : Int) (w1 : World), lo ≤ x → x < lo + n → Below w.heap.size w w1 → Calls Try.prog 56 #[.int .i64 x, .pointer (some ⟨br, 0, none⟩), .pointer (some ⟨bs, 0, none⟩)] w1 fun e w2 => e = .returned (.bool (p x)) ∧ Below w1.heap.size w1 w2) :
    Calls Try.prog 55 #[.int .i64 lo, .int .i64 hi, .func (.func 56) #[] #[.pointer (some ⟨br, 0, none⟩), .pointer (some ⟨bs, 0, none⟩)]] w fun e w2 => e = .returned (.int .i64 (lo + (m : Int))) ∧ Below w.heap.size w w2 := by
  have HF := Lib.hid hf
  have HL := Lib.hid hl
  have HH := Lib.hid hh
  clear hf hl hh
  have e3 : hi - lo + 1 = (n : Int) := h3.symm
  have H3 := Lib.hid e3
  clear e3
  go_enter Try.func55, Try.ntmps55
  go_wp2_with fail
  rw [H3.out]
  have hB2 : Below w.heap.size w ((w.alloc (.cells #[.int .i64 lo] 2)).alloc (.cells #[.func (.func 56) #[] #[.pointer (some ⟨br, 0, none⟩), .pointer (some ⟨bs, 0, none⟩)]] 75)) := (below_box _ _).alloc (by simp) _
  have hz : w.heap.size + 1 < ((w.alloc (.cells #[.int .i64 lo] 2)).alloc (.cells #[.func (.func 56) #[] #[.pointer (some ⟨br, 0, none⟩), .pointer (some ⟨bs, 0, none⟩)]] 75)).heap.size := by simp
  refine (searchD br bs p lo n m (w.heap.size + 1) w.heap.size _ (by simp) (by simp) h1 h6 hm HL.out HH.out (fun x w1 hx1 hx2 hb => HF.out x w1 hx1 hx2 (hB2.trans (hb.mono hB2.size)))).mono ?_
  rintro e w2 ⟨rfl, hb⟩
  obtain ⟨hc, hfz⟩ := bcell hb
  have HN := Lib.hid hB2
  have HZ := Lib.hid hz
  clear hB2
  go_wp2
  go_ret
  exact ⟨rfl, HN.out.trans (hb.mono HN.out.size)⟩
theorem iDiluteFlow_any (r s : Int) (w : World) :
    Calls Try.prog 20 #[.int .i64 r, .int .i64 s] w fun e w' => e = .returned (.tuple #[.int .i64 (dfA r s), .int .i64 (dfB r s)]) ∧ Below w.heap.size w w' := by
  obtain ⟨W0, hW0⟩ : ∃ x, x = ((w.alloc (.cells #[.int .i64 r] 2)).alloc (.cells #[.int .i64 s] 2)) := ⟨_, rfl⟩
  have HB0 := Lib.hid (show Below w.heap.size w W0 by rw [hW0]; exact (below_box _ _).alloc (by simp) _)
  have R0 := Lib.hid (show W0.cell? ⟨w.heap.size, 0, none⟩ = some (.int .i64 r) by rw [hW0, World.cell?_alloc_old _ _ _ (by simp)]; simp)
  have S0 := Lib.hid (show W0.cell? ⟨w.heap.size + 1, 0, none⟩ = some (.int .i64 s) by rw [hW0]; simp)
  by_cases h1 : 0 ≤ r ∧ r ≤ 10000000
  · have i1 := inB_true h1.1 h1.2
    by_cases h2 : 1 ≤ s ∧ s ≤ 1000000
    · have i2 := inB_true h2.1 h2.2
      have HF := Lib.hid (show dfA r s = (if dlG r s ≤ 100000 then dlG r s else 0) ∧ dfB r s = (if dlG r s ≤ 100000 then 0 else 3) by simp [dfA, dfB, i1, i2])
      have hdb := dlG_bd (s := s) h1.1 h1.2 h2.1
      have hdp := dlG_pos r s
      have HI := Lib.hid (fun (q : Int) (hq : 1 ≤ q) => dlG_iff (r := r) (s := s) h1.1 h2.1 h2.2 hq)
      generalize dlG r s = d at *
      obtain ⟨m, hm⟩ : ∃ m : Nat, (m : Int) = if d ≤ 100000 then d - 1 else 100000 := ⟨(if d ≤ 100000 then d - 1 else 100000).toNat, by split <;> omega⟩
      have hmd : (d ≤ 100000 ∧ (m : Int) = d - 1) ∨ (100000 < d ∧ m = 100000) := by split at hm <;> omega
      have M2 := Lib.hid (show ∀ t : Nat, t < m → decide (shG r (1 + (t : Int)) ≤ s) = false from fun t ht => by have := HI.out (1 + (t : Int)) (by omega); simp only [decide_eq_false_iff_not]; omega)
      have M3 := Lib.hid (show ∀ t : Nat, m ≤ t → t < 100000 → decide (shG r (1 + (t : Int)) ≤ s) = true from fun t a b => by have := HI.out (1 + (t : Int)) (by omega); simp only [decide_eq_true_eq]; omega)
      have hmn : m ≤ 100000 := by omega
      clear hm
      go_enter Try.func20, Try.ntmps20
      go_wp2_with fail
      rw [← hW0]
      have r0 := R0.out
      (with_reducible refine (isRate_any r W0).mono ?_)
      rintro e w1 ⟨rfl, hd1⟩
      have HB1 := Lib.hid (HB0.out.trans (hd1.mono HB0.out.size))
      have r1 := (hd1.cell (World.block_lt_of_cell? _ _ R0.out)).trans R0.out
      have s1 := (hd1.cell (World.block_lt_of_cell? _ _ S0.out)).trans S0.out
      clear hd1 hW0 r0
      go_wp2_with fail
      (with_reducible refine (within64_oneB _ _ s w1 _ _ (by simp)).mono ?_)
      rintro e w2 ⟨rfl, hd2⟩
      have HB2 := Lib.hid (HB1.out.trans (hd2.mono HB1.out.size))
      have R2 := Lib.hid ((hd2.cell (World.block_lt_of_cell? _ _ r1)).trans r1)
      have S2 := Lib.hid ((hd2.cell (World.block_lt_of_cell? _ _ s1)).trans s1)
      clear hd2 r1 s1
      go_wp2_with fail
      (with_reducible refine (leastD w.heap.size (w.heap.size + 1) (fun x => decide (shG r x ≤ s)) 1 100000 100000 m w2 (by omega) (by omega) (by omega) (by omega) (by omega) hmn M2.out M3.out (fun x w3 hx1 hx2 hb => dilutes_any w.heap.size (w.heap.size + 1) r s x w3 ((hb.cell (World.block_lt_of_cell? _ _ R2.out)).trans R2.out) ((hb.cell (World.block_lt_of_cell? _ _ S2.out)).trans S2.out) ⟨h1.1, by omega⟩ ⟨hx1, by omega⟩)).mono ?_)
      rintro e w3 ⟨rfl, hd3⟩
      have HB3 := Lib.hid (HB2.out.trans (hd3.mono HB2.out.size))
      clear hd3
      rcases hmd with ⟨q1, q2⟩ | ⟨q1, q2⟩
      · have HE := Lib.hid (show dfA r s = 1 + (m : Int) ∧ dfB r s = 0 by rw [HF.out.1, HF.out.2, if_pos q1, if_pos q1]; exact ⟨by omega, rfl⟩)
        have q3 : ¬ (100000 < 1 + (m : Int)) := by omega
        clear q1 q2
        go_wp2
        go_ret2
        exact ⟨ret_two HE.out.1.symm HE.out.2.symm, HB3.out⟩
      · have HE := Lib.hid (show dfA r s = 0 ∧ dfB r s = 3 by rw [HF.out.1, HF.out.2, if_neg (by omega), if_neg (by omega)]; exact ⟨rfl, rfl⟩)
        subst q2
        go_wp2
        go_ret2
        exact ⟨ret_two HE.out.1.symm HE.out.2.symm, HB3.out⟩
    · have i2 := inB_false h2
      have HE := Lib.hid (show dfA r s = 0 ∧ dfB r s = 2 by simp [dfA, dfB, i2])
      go_enter Try.func20, Try.ntmps20
      go_wp2_with fail
      rw [← hW0]
      have r0 := R0.out
      (with_reducible refine (isRate_any r W0).mono ?_)
      rintro e w1 ⟨rfl, hd1⟩
      have HB1 := Lib.hid (HB0.out.trans (hd1.mono HB0.out.size))
      have r1 := (hd1.cell (World.block_lt_of_cell? _ _ R0.out)).trans R0.out
      have s1 := (hd1.cell (World.block_lt_of_cell? _ _ S0.out)).trans S0.out
      clear hd1 hW0 r0
      go_wp2_with fail
      (with_reducible refine (within64_oneB _ _ s w1 _ _ (by simp)).mono ?_)
      rintro e w2 ⟨rfl, hd2⟩
      have HB2 := Lib.hid (HB1.out.trans (hd2.mono HB1.out.size))
      have R2 := Lib.hid ((hd2.cell (World.block_lt_of_cell? _ _ r1)).trans r1)
      have S2 := Lib.hid ((hd2.cell (World.block_lt_of_cell? _ _ s1)).trans s1)
      clear hd2 r1 s1
      go_wp2
      go_ret2
      exact ⟨ret_two HE.out.1.symm HE.out.2.symm, HB2.out⟩
  · have i1 := inB_false h1
    have HE := Lib.hid (show dfA r s = 0 ∧ dfB r s = 2 by simp [dfA, dfB, i1])
    go_enter Try.func20, Try.ntmps20
    go_wp2_with fail
    rw [← hW0]
    have r0 := R0.out
    (with_reducible refine (isRate_any r W0).mono ?_)
    rintro e w1 ⟨rfl, hd1⟩
    have HB1 := Lib.hid (HB0.out.trans (hd1.mono HB0.out.size))
    have r1 := (hd1.cell (World.block_lt_of_cell? _ _ R0.out)).trans R0.out
    have s1 := (hd1.cell (World.block_lt_of_cell? _ _ S0.out)).trans S0.out
    clear hd1 hW0 r0
    go_wp2
    go_ret2
    exact ⟨ret_two HE.out.1.symm HE.out.2.symm, HB1.out⟩
end Go.Proofs.Ythbofhlfggkolaa
