/-
  Contracts of chapter 3: times, limits of flows, airways that are turned; the model's and the program's. Conditions: those that each theorem states.
-/
import Derived.Test.YtkldgmgjbboiaabDf
namespace Go.Proofs.Ytkldgmgjbboiaab
open Go.RowKit
set_option linter.unusedVariables false

/-- What TravelTime returns. -/
def timeR (l se q : Int) : Int := (l * se + absR q - 1) / absR q
def timeA (s : ByteArray) (f t l se fr sh : Int) (q : Int) : Int := if awOk s f t l se fr sh then (if inB q (-100000) 100000 then (if q = 0 then 0 else timeR l se q) else 0) else 0
def timeB (s : ByteArray) (f t l se fr sh : Int) (q : Int) : Int := if awOk s f t l se fr sh then (if inB q (-100000) 100000 then (if q = 0 then 6 else 0) else 2) else 1
theorem l03Time_any (b : Nat) (s : ByteArray) (f t l se fr sh : Int) (q : Int) (w : World) (hc : AwAt w b s f t l se fr sh) (h1 : 1 ≤ l ∧ l ≤ 10000) (h4 : 50 ≤ se ∧ se ≤ 5000) (h5 : -100000 ≤ q ∧ q ≤ 100000) (h0 : q ≠ 0) :
    Calls Try.prog 57 #[.pointer (some ⟨b, 0, none⟩), .int .i64 q] w fun e w' => e = .returned (.int .i64 (timeR l se q)) ∧ Below w.heap.size w w' := by
  obtain ⟨⟨c0, c1, c2, c3⟩, c4, c5, c6⟩ := hc
  obtain ⟨v1, v2⟩ := vol_bd h1 h4
  have ha : 1 ≤ absR q ∧ absR q ≤ 100000 := by have := absR_cases q; omega
  obtain ⟨a1, a2⟩ := ha
  have HE := Lib.hid (show timeR l se q = (l * se + absR q - 1) / absR q from rfl)
  go_enter Try.func57, Try.ntmps57
  go_wp2_with (go_at_call 62; refine (l03Abs_any q _ (by omega) (by omega)).mono ?_; rintro e w' ⟨rfl, rfl⟩)
  go_quiet (fail)
  go_wp2
  go_ret
  exact ⟨ret_int HE.out.symm, below_drewN' (Below.refl _ _) _⟩
theorem sTravelTime_any (s : ByteArray) (f t l se fr sh : Int) (q : Int) (w : World) (hs : s.size ≤ maxLen) :
    Calls Try.prog 26 #[.agg #[.string s, .int .i64 f, .int .i64 t, .int .i64 l, .int .i64 se, .int .i64 fr, .int .i64 sh], .int .i64 q] w fun e w' => e = .returned (.tuple #[.int .i64 (timeA s f t l se fr sh q), .int .i64 (timeB s f t l se fr sh q)]) ∧ Below w.heap.size w w' := by
  cases hok : awOk s f t l se fr sh
  · have HE := Lib.hid (show timeA s f t l se fr sh q = 0 ∧ timeB s f t l se fr sh q = 1 by simp [timeA, timeB, hok])
    have HK := Lib.hid (show askR s f t l se fr sh q = 1 by simp [askR, hok])
    go_enter Try.func26, Try.ntmps26
    go_wp2_with (first
          | (go_at_call 54; refine ((l03Ask_any w.heap.size s f t l se fr sh q (w.alloc (.cells #[.string s, .int .i64 f, .int .i64 t, .int .i64 l, .int .i64 se, .int .i64 fr, .int .i64 sh] 26)) hs (boxed s f t l se fr sh w)).mono (R' := fun e w' => e = .returned (.int .i64 (1)) ∧ Below (w.alloc (.cells #[.string s, .int .i64 f, .int .i64 t, .int .i64 l, .int .i64 se, .int .i64 fr, .int .i64 sh] 26)).heap.size (w.alloc (.cells #[.string s, .int .i64 f, .int .i64 t, .int .i64 l, .int .i64 se, .int .i64 fr, .int .i64 sh] 26)) w') (fun _ _ h => HK.out ▸ h)).mono ?_; rintro e w1 ⟨rfl, hd1⟩; have hb1 := hd1; obtain ⟨hc1, hf1⟩ := bcell hb1; have hz1 : w.heap.size < w1.heap.size := Nat.lt_of_lt_of_le (by simp) hb1.size; clear hd1))
    go_ret2
    exact ⟨ret_two HE.out.1.symm HE.out.2.symm, (show Below w.heap.size w w1 from (below_box _ _).trans (hb1.mono (by simp)))⟩
  · have HOK := Lib.hid hok
    cases hq : inB q (-100000) 100000
    · have HE := Lib.hid (show timeA s f t l se fr sh q = 0 ∧ timeB s f t l se fr sh q = 2 by simp [timeA, timeB, hok, hq])
      have HK := Lib.hid (show askR s f t l se fr sh q = 2 by simp [askR, hok, hq])
      go_enter Try.func26, Try.ntmps26
      go_wp2_with (first
            | (go_at_call 54; refine ((l03Ask_any w.heap.size s f t l se fr sh q (w.alloc (.cells #[.string s, .int .i64 f, .int .i64 t, .int .i64 l, .int .i64 se, .int .i64 fr, .int .i64 sh] 26)) hs (boxed s f t l se fr sh w)).mono (R' := fun e w' => e = .returned (.int .i64 (2)) ∧ Below (w.alloc (.cells #[.string s, .int .i64 f, .int .i64 t, .int .i64 l, .int .i64 se, .int .i64 fr, .int .i64 sh] 26)).heap.size (w.alloc (.cells #[.string s, .int .i64 f, .int .i64 t, .int .i64 l, .int .i64 se, .int .i64 fr, .int .i64 sh] 26)) w') (fun _ _ h => HK.out ▸ h)).mono ?_; rintro e w1 ⟨rfl, hd1⟩; have hb1 := hd1; obtain ⟨hc1, hf1⟩ := bcell hb1; have hz1 : w.heap.size < w1.heap.size := Nat.lt_of_lt_of_le (by simp) hb1.size; clear hd1))
      go_ret2
      exact ⟨ret_two HE.out.1.symm HE.out.2.symm, (show Below w.heap.size w w1 from (below_box _ _).trans (hb1.mono (by simp)))⟩
    · obtain ⟨_, _, h1, h4, h2, h3⟩ := awOk_bd hok
      have hqb := inB_iff.1 hq
      have HK := Lib.hid (show askR s f t l se fr sh q = 0 by simp [askR, hok, hq])
      by_cases h0 : q = 0
      · subst h0
        have HE := Lib.hid (show timeA s f t l se fr sh 0 = 0 ∧ timeB s f t l se fr sh 0 = 6 by simp [timeA, timeB, hok, hq])
        go_enter Try.func26, Try.ntmps26
        go_wp2_with (first
              | (go_at_call 54; refine ((l03Ask_any w.heap.size s f t l se fr sh 0 (w.alloc (.cells #[.string s, .int .i64 f, .int .i64 t, .int .i64 l, .int .i64 se, .int .i64 fr, .int .i64 sh] 26)) hs (boxed s f t l se fr sh w)).mono (R' := fun e w' => e = .returned (.int .i64 (0)) ∧ Below (w.alloc (.cells #[.string s, .int .i64 f, .int .i64 t, .int .i64 l, .int .i64 se, .int .i64 fr, .int .i64 sh] 26)).heap.size (w.alloc (.cells #[.string s, .int .i64 f, .int .i64 t, .int .i64 l, .int .i64 se, .int .i64 fr, .int .i64 sh] 26)) w') (fun _ _ h => HK.out ▸ h)).mono ?_; rintro e w1 ⟨rfl, hd1⟩; have hb1 := hd1; obtain ⟨hc1, hf1⟩ := bcell hb1; have hz1 : w.heap.size < w1.heap.size := Nat.lt_of_lt_of_le (by simp) hb1.size; clear hd1))
        go_ret2
        exact ⟨ret_two HE.out.1.symm HE.out.2.symm, (show Below w.heap.size w w1 from (below_box _ _).trans (hb1.mono (by simp)))⟩
      · have HE := Lib.hid (show timeA s f t l se fr sh q = timeR l se q ∧ timeB s f t l se fr sh q = 0 by simp [timeA, timeB, hok, hq, h0])
        have h0b : (q == 0) = false := by simpa using h0
        go_enter Try.func26, Try.ntmps26
        go_wp2_with (first
              | (go_at_call 54; refine ((l03Ask_any w.heap.size s f t l se fr sh q (w.alloc (.cells #[.string s, .int .i64 f, .int .i64 t, .int .i64 l, .int .i64 se, .int .i64 fr, .int .i64 sh] 26)) hs (boxed s f t l se fr sh w)).mono (R' := fun e w' => e = .returned (.int .i64 (0)) ∧ Below (w.alloc (.cells #[.string s, .int .i64 f, .int .i64 t, .int .i64 l, .int .i64 se, .int .i64 fr, .int .i64 sh] 26)).heap.size (w.alloc (.cells #[.string s, .int .i64 f, .int .i64 t, .int .i64 l, .int .i64 se, .int .i64 fr, .int .i64 sh] 26)) w') (fun _ _ h => HK.out ▸ h)).mono ?_; rintro e w1 ⟨rfl, hd1⟩; have hb1 := hd1; obtain ⟨hc1, hf1⟩ := bcell hb1; have hz1 : w.heap.size < w1.heap.size := Nat.lt_of_lt_of_le (by simp) hb1.size; clear hd1)
              | (go_at_call 57; refine (l03Time_any w.heap.size s f t l se fr sh q w1 ((boxed s f t l se fr sh w).below hb1 (by simp)) h1 h4 hqb h0).mono ?_; rintro e w2 ⟨rfl, hd2⟩; have hb2 := hb1.trans (hd2.mono hb1.size); obtain ⟨hc2, hf2⟩ := bcell hb2; have hz2 : w.heap.size < w2.heap.size := Nat.lt_of_lt_of_le (by simp) hb2.size; clear hd2))
        go_ret2
        exact ⟨ret_two HE.out.1.symm HE.out.2.symm, (show Below w.heap.size w w2 from (below_box _ _).trans (hb2.mono (by simp)))⟩
theorem iTravelTime_any (s : ByteArray) (f t l se fr sh : Int) (q : Int) (w : World) (hs : s.size ≤ maxLen) :
    Calls Try.prog 27 #[.agg #[.string s, .int .i64 f, .int .i64 t, .int .i64 l, .int .i64 se, .int .i64 fr, .int .i64 sh], .int .i64 q] w fun e w' => e = .returned (.tuple #[.int .i64 (timeA s f t l se fr sh q), .int .i64 (timeB s f t l se fr sh q)]) ∧ Below w.heap.size w w' := by
  cases hok : awOk s f t l se fr sh
  · have HE := Lib.hid (show timeA s f t l se fr sh q = 0 ∧ timeB s f t l se fr sh q = 1 by simp [timeA, timeB, hok])
    go_enter Try.func27, Try.ntmps27
    go_wp2_with (first
          | (go_at_call 17; refine (iValidAirway_any s f t l se fr sh (w.alloc (.cells #[.string s, .int .i64 f, .int .i64 t, .int .i64 l, .int .i64 se, .int .i64 fr, .int .i64 sh] 26)) hs).mono ?_; rintro e w1 ⟨rfl, hd1⟩; have hb1 := hd1; obtain ⟨hc1, hf1⟩ := bcell hb1; have hz1 : w.heap.size < w1.heap.size := Nat.lt_of_lt_of_le (by simp) hb1.size; clear hd1)
          | (go_at_call 48; refine (isFlow_any _ _).mono ?_; rintro e w' ⟨rfl, rfl⟩))
    go_ret2
    exact ⟨ret_two HE.out.1.symm HE.out.2.symm, (show Below w.heap.size w w1 from (below_box _ _).trans (hb1.mono (by simp)))⟩
  · have HOK := Lib.hid hok
    cases hq : inB q (-100000) 100000
    · have HE := Lib.hid (show timeA s f t l se fr sh q = 0 ∧ timeB s f t l se fr sh q = 2 by simp [timeA, timeB, hok, hq])
      go_enter Try.func27, Try.ntmps27
      go_wp2_with (first
            | (go_at_call 17; refine (iValidAirway_any s f t l se fr sh (w.alloc (.cells #[.string s, .int .i64 f, .int .i64 t, .int .i64 l, .int .i64 se, .int .i64 fr, .int .i64 sh] 26)) hs).mono ?_; rintro e w1 ⟨rfl, hd1⟩; have hb1 := hd1; obtain ⟨hc1, hf1⟩ := bcell hb1; have hz1 : w.heap.size < w1.heap.size := Nat.lt_of_lt_of_le (by simp) hb1.size; clear hd1)
            | (go_at_call 48; refine (isFlow_any _ _).mono ?_; rintro e w' ⟨rfl, rfl⟩))
      go_ret2
      exact ⟨ret_two HE.out.1.symm HE.out.2.symm, (show Below w.heap.size w w1 from (below_box _ _).trans (hb1.mono (by simp)))⟩
    · obtain ⟨_, _, h1, h4, h2, h3⟩ := awOk_bd hok
      have hqb := inB_iff.1 hq
      by_cases h0 : q = 0
      · subst h0
        have HE := Lib.hid (show timeA s f t l se fr sh 0 = 0 ∧ timeB s f t l se fr sh 0 = 6 by simp [timeA, timeB, hok, hq])
        go_enter Try.func27, Try.ntmps27
        go_wp2_with (first
              | (go_at_call 17; refine (iValidAirway_any s f t l se fr sh (w.alloc (.cells #[.string s, .int .i64 f, .int .i64 t, .int .i64 l, .int .i64 se, .int .i64 fr, .int .i64 sh] 26)) hs).mono ?_; rintro e w1 ⟨rfl, hd1⟩; have hb1 := hd1; obtain ⟨hc1, hf1⟩ := bcell hb1; have hz1 : w.heap.size < w1.heap.size := Nat.lt_of_lt_of_le (by simp) hb1.size; clear hd1)
              | (go_at_call 48; refine (isFlow_any _ _).mono ?_; rintro e w' ⟨rfl, rfl⟩))
        go_ret2
        exact ⟨ret_two HE.out.1.symm HE.out.2.symm, (show Below w.heap.size w w1 from (below_box _ _).trans (hb1.mono (by simp)))⟩
      · have HE := Lib.hid (show timeA s f t l se fr sh q = timeR l se q ∧ timeB s f t l se fr sh q = 0 by simp [timeA, timeB, hok, hq, h0])
        have h0b : (q == 0) = false := by simpa using h0
        obtain ⟨v1, v2⟩ := vol_bd h1 h4
        have ha : 1 ≤ absR q ∧ absR q ≤ 100000 := by have := absR_cases q; omega
        obtain ⟨a1, a2⟩ := ha
        have HQ := Lib.hid (show timeR l se q = (l * se + absR q - 1) / absR q from rfl)
        go_enter Try.func27, Try.ntmps27
        go_wp2_with (first
              | (go_at_call 17; refine (iValidAirway_any s f t l se fr sh (w.alloc (.cells #[.string s, .int .i64 f, .int .i64 t, .int .i64 l, .int .i64 se, .int .i64 fr, .int .i64 sh] 26)) hs).mono ?_; rintro e w1 ⟨rfl, hd1⟩; have hb1 := hd1; obtain ⟨hc1, hf1⟩ := bcell hb1; have hz1 : w.heap.size < w1.heap.size := Nat.lt_of_lt_of_le (by simp) hb1.size; clear hd1)
              | (go_at_call 48; refine (isFlow_any _ _).mono ?_; rintro e w' ⟨rfl, rfl⟩)
              | (go_at_call 58; refine (absolute_any q _ (by omega) (by omega)).mono ?_; rintro e w' ⟨rfl, rfl⟩)
              | (go_at_call 59; refine (volume_any s f t l se fr sh w1 HOK.out).mono ?_; rintro e w2 ⟨rfl, hd2⟩; have hb2 := hb1.trans (hd2.mono hb1.size); obtain ⟨hc2, hf2⟩ := bcell hb2; have hz2 : w.heap.size < w2.heap.size := Nat.lt_of_lt_of_le (by simp) hb2.size; clear hd2))
        go_ret2
        exact ⟨ret_two (by rw [HE.out.1, HQ.out]) HE.out.2.symm, (show Below w.heap.size w w2 from (below_box _ _).trans (hb2.mono (by simp)))⟩
/-- What FlowLimit returns. -/
def limA (s : ByteArray) (f t l se fr sh : Int) (q : Int) : Int := if awOk s f t l se fr sh then (if inB q 0 2000 then q * se / 100 else 0) else 0
def limB (s : ByteArray) (f t l se fr sh : Int) (q : Int) : Int := if awOk s f t l se fr sh then (if inB q 0 2000 then 0 else 2) else 1
theorem lmin_any (x : Int) (w : World) (h : x ≤ 100000) : Calls Try.prog 60 #[.int .i64 100000, .int .i64 x] w fun e w' => e = .returned (.int .i64 x) ∧ w = w' :=
  (l00Min_any 100000 x w).mono fun _ _ ⟨h', e⟩ => ⟨h'.trans (ret_int (if_neg (by omega))), e⟩
theorem sFlowLimit_any (s : ByteArray) (f t l se fr sh : Int) (q : Int) (w : World) (hs : s.size ≤ maxLen) :
    Calls Try.prog 30 #[.agg #[.string s, .int .i64 f, .int .i64 t, .int .i64 l, .int .i64 se, .int .i64 fr, .int .i64 sh], .int .i64 q] w fun e w' => e = .returned (.tuple #[.int .i64 (limA s f t l se fr sh q), .int .i64 (limB s f t l se fr sh q)]) ∧ Below w.heap.size w w' := by
  cases hok : awOk s f t l se fr sh
  · have HE := Lib.hid (show limA s f t l se fr sh q = 0 ∧ limB s f t l se fr sh q = 1 by simp [limA, limB, hok])
    go_enter Try.func30, Try.ntmps30
    go_wp2_with (first
          | (go_at_call 39; refine (l03Ok_below w.heap.size s f t l se fr sh (w.alloc (.cells #[.string s, .int .i64 f, .int .i64 t, .int .i64 l, .int .i64 se, .int .i64 fr, .int .i64 sh] 26)) hs (boxed s f t l se fr sh w)).mono ?_; rintro e w1 ⟨rfl, hd1⟩; have hb1 := hd1; obtain ⟨hc1, hf1⟩ := bcell hb1; have hz1 : w.heap.size < w1.heap.size := Nat.lt_of_lt_of_le (by simp) hb1.size; clear hd1))
    go_ret2
    exact ⟨ret_two HE.out.1.symm HE.out.2.symm, (show Below w.heap.size w w1 from (below_box _ _).trans (hb1.mono (by simp)))⟩
  · cases hq : inB q 0 2000
    · have HE := Lib.hid (show limA s f t l se fr sh q = 0 ∧ limB s f t l se fr sh q = 2 by simp [limA, limB, hok, hq])
      go_enter Try.func30, Try.ntmps30
      go_wp2_with (first
            | (go_at_call 39; refine (l03Ok_below w.heap.size s f t l se fr sh (w.alloc (.cells #[.string s, .int .i64 f, .int .i64 t, .int .i64 l, .int .i64 se, .int .i64 fr, .int .i64 sh] 26)) hs (boxed s f t l se fr sh w)).mono ?_; rintro e w1 ⟨rfl, hd1⟩; have hb1 := hd1; obtain ⟨hc1, hf1⟩ := bcell hb1; have hz1 : w.heap.size < w1.heap.size := Nat.lt_of_lt_of_le (by simp) hb1.size; clear hd1)
            | (go_at_call 50; refine (l00In_any _ _ _ _).mono ?_; rintro e w' ⟨rfl, rfl⟩))
      go_ret2
      exact ⟨ret_two HE.out.1.symm HE.out.2.symm, (show Below w.heap.size w w1 from (below_box _ _).trans (hb1.mono (by simp)))⟩
    · have HE := Lib.hid (show limA s f t l se fr sh q = q * se / 100 ∧ limB s f t l se fr sh q = 0 by simp [limA, limB, hok, hq])
      obtain ⟨_, _, h1, h4, h2, h3⟩ := awOk_bd hok
      have hqb := inB_iff.1 hq
      obtain ⟨m1, m2⟩ := mul_nn (p := q) (q := se) (A := 2000) (B := 5000) (by omega) (by omega) (by omega) (by omega)
      have m3 : q * se / 100 ≤ 100000 := by omega
      have m4 : 0 ≤ q * se / 100 := by omega
      go_enter Try.func30, Try.ntmps30
      go_wp2_with (first
            | (go_at_call 39; refine (l03Ok_below w.heap.size s f t l se fr sh (w.alloc (.cells #[.string s, .int .i64 f, .int .i64 t, .int .i64 l, .int .i64 se, .int .i64 fr, .int .i64 sh] 26)) hs (boxed s f t l se fr sh w)).mono ?_; rintro e w1 ⟨rfl, hd1⟩; have hb1 := hd1; obtain ⟨hc1, hf1⟩ := bcell hb1; have hz1 : w.heap.size < w1.heap.size := Nat.lt_of_lt_of_le (by simp) hb1.size; clear hd1)
            | (go_at_call 50; refine (l00In_any _ _ _ _).mono ?_; rintro e w' ⟨rfl, rfl⟩)
            | (go_at_call 60; refine (lmin_any _ _ (by omega)).mono ?_; rintro e w' ⟨rfl, rfl⟩))
      go_ret2
      exact ⟨ret_two HE.out.1.symm HE.out.2.symm, (show Below w.heap.size w w1 from (below_box _ _).trans (hb1.mono (by simp)))⟩
theorem iFlowLimit_any (s : ByteArray) (f t l se fr sh : Int) (q : Int) (w : World) (hs : s.size ≤ maxLen) :
    Calls Try.prog 31 #[.agg #[.string s, .int .i64 f, .int .i64 t, .int .i64 l, .int .i64 se, .int .i64 fr, .int .i64 sh], .int .i64 q] w fun e w' => e = .returned (.tuple #[.int .i64 (limA s f t l se fr sh q), .int .i64 (limB s f t l se fr sh q)]) ∧ Below w.heap.size w w' := by
  cases hok : awOk s f t l se fr sh
  · have HE := Lib.hid (show limA s f t l se fr sh q = 0 ∧ limB s f t l se fr sh q = 1 by simp [limA, limB, hok])
    go_enter Try.func31, Try.ntmps31
    go_wp2_with (first
          | (go_at_call 17; refine (iValidAirway_any s f t l se fr sh (w.alloc (.cells #[.string s, .int .i64 f, .int .i64 t, .int .i64 l, .int .i64 se, .int .i64 fr, .int .i64 sh] 26)) hs).mono ?_; rintro e w1 ⟨rfl, hd1⟩; have hb1 := hd1; obtain ⟨hc1, hf1⟩ := bcell hb1; have hz1 : w.heap.size < w1.heap.size := Nat.lt_of_lt_of_le (by simp) hb1.size; clear hd1))
    go_ret2
    exact ⟨ret_two HE.out.1.symm HE.out.2.symm, (show Below w.heap.size w w1 from (below_box _ _).trans (hb1.mono (by simp)))⟩
  · cases hq : inB q 0 2000
    · have HE := Lib.hid (show limA s f t l se fr sh q = 0 ∧ limB s f t l se fr sh q = 2 by simp [limA, limB, hok, hq])
      go_enter Try.func31, Try.ntmps31
      go_wp2_with (first
            | (go_at_call 17; refine (iValidAirway_any s f t l se fr sh (w.alloc (.cells #[.string s, .int .i64 f, .int .i64 t, .int .i64 l, .int .i64 se, .int .i64 fr, .int .i64 sh] 26)) hs).mono ?_; rintro e w1 ⟨rfl, hd1⟩; have hb1 := hd1; obtain ⟨hc1, hf1⟩ := bcell hb1; have hz1 : w.heap.size < w1.heap.size := Nat.lt_of_lt_of_le (by simp) hb1.size; clear hd1)
            | (go_at_call 61; refine (isSpeed_any _ _).mono ?_; rintro e w' ⟨rfl, rfl⟩))
      go_ret2
      exact ⟨ret_two HE.out.1.symm HE.out.2.symm, (show Below w.heap.size w w1 from (below_box _ _).trans (hb1.mono (by simp)))⟩
    · have HE := Lib.hid (show limA s f t l se fr sh q = q * se / 100 ∧ limB s f t l se fr sh q = 0 by simp [limA, limB, hok, hq])
      obtain ⟨_, _, h1, h4, h2, h3⟩ := awOk_bd hok
      have hqb := inB_iff.1 hq
      obtain ⟨m1, m2⟩ := mul_nn (p := q) (q := se) (A := 2000) (B := 5000) (by omega) (by omega) (by omega) (by omega)
      have m3 : q * se / 100 ≤ 100000 := by omega
      have m4 : 0 ≤ q * se / 100 := by omega
      by_cases he : q * se / 100 = 100000
      · have he1 : 100000 ≤ q * se / 100 := by omega
        go_enter Try.func31, Try.ntmps31
        go_wp2_with (first
              | (go_at_call 17; refine (iValidAirway_any s f t l se fr sh (w.alloc (.cells #[.string s, .int .i64 f, .int .i64 t, .int .i64 l, .int .i64 se, .int .i64 fr, .int .i64 sh] 26)) hs).mono ?_; rintro e w1 ⟨rfl, hd1⟩; have hb1 := hd1; obtain ⟨hc1, hf1⟩ := bcell hb1; have hz1 : w.heap.size < w1.heap.size := Nat.lt_of_lt_of_le (by simp) hb1.size; clear hd1)
              | (go_at_call 61; refine (isSpeed_any _ _).mono ?_; rintro e w' ⟨rfl, rfl⟩))
        go_ret2
        exact ⟨ret_two (by rw [HE.out.1]; omega) HE.out.2.symm, (show Below w.heap.size w w1 from (below_box _ _).trans (hb1.mono (by simp)))⟩
      · have he1 : q * se / 100 < 100000 := by omega
        go_enter Try.func31, Try.ntmps31
        go_wp2_with (first
              | (go_at_call 17; refine (iValidAirway_any s f t l se fr sh (w.alloc (.cells #[.string s, .int .i64 f, .int .i64 t, .int .i64 l, .int .i64 se, .int .i64 fr, .int .i64 sh] 26)) hs).mono ?_; rintro e w1 ⟨rfl, hd1⟩; have hb1 := hd1; obtain ⟨hc1, hf1⟩ := bcell hb1; have hz1 : w.heap.size < w1.heap.size := Nat.lt_of_lt_of_le (by simp) hb1.size; clear hd1)
              | (go_at_call 61; refine (isSpeed_any _ _).mono ?_; rintro e w' ⟨rfl, rfl⟩))
        go_ret2
        exact ⟨ret_two (by rw [HE.out.1]; omega) HE.out.2.symm, (show Below w.heap.size w w1 from (below_box _ _).trans (hb1.mono (by simp)))⟩
end Go.Proofs.Ytkldgmgjbboiaab
