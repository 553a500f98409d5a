/-
  Contracts of chapter 3: what the functions of an airway return; the model's and the program's. Conditions: those that each theorem states.
-/
import Derived.Test.YtddfhjolimkkmaaDd
namespace Go.Proofs.Ytddfhjolimkkmaa
open Go.RowKit
set_option linter.unusedVariables false

theorem lmax1_any (x : Int) (w : World) : Calls Try.prog 157 #[.int .i64 1, .int .i64 x] w fun e w' => e = .returned (.int .i64 (max1 x)) ∧ w = w' :=
  (l00Max_any 1 x w).mono fun _ _ ⟨h, e⟩ => ⟨h, e⟩
theorem max1_ge (x : Int) : 1 ≤ max1 x := by unfold max1; split <;> omega
/-- What ResistanceOf returns. -/
def resA (s : ByteArray) (f t l se fr sh : Int) : Int := if awOk s f t l se fr sh then (if max1 (rawR l fr sh se) ≤ 1000000 then max1 (rawR l fr sh se) else 0) else 0
def resB (s : ByteArray) (f t l se fr sh : Int) : Int := if awOk s f t l se fr sh then (if max1 (rawR l fr sh se) ≤ 1000000 then 0 else 6) else 1
theorem l03Raw_below (b : Nat) (s : ByteArray) (f t l se fr sh : Int) (se' : Int) (w : World) (hc : AwAt w b s f t l se fr sh) (h1 : 1 ≤ l ∧ l ≤ 10000) (h2 : 1 ≤ fr ∧ fr ≤ 1000) (h3 : 0 ≤ sh ∧ sh ≤ 1000) (h4 : 50 ≤ se' ∧ se' ≤ 5000) :
    Calls Try.prog 167 #[.pointer (some ⟨b, 0, none⟩), .int .i64 se'] w fun e w' => e = .returned (.int .i64 (rawR l fr sh se')) ∧ Below w.heap.size w w' :=
  (l03Raw_any b s f t l se fr sh se' w hc h1 h2 h3 h4).mono fun _ _ ⟨h, _, e⟩ => ⟨h, below_drew e⟩
theorem l03Resistance_any (b : Nat) (s : ByteArray) (f t l se fr sh : Int) (w : World) (hok : awOk s f t l se fr sh = true) (hc : AwAt w b s f t l se fr sh) :
    Calls Try.prog 138 #[.pointer (some ⟨b, 0, none⟩)] w fun e w' => e = .returned (.tuple #[.int .i64 (resA s f t l se fr sh), .int .i64 (resB s f t l se fr sh)]) ∧ Below w.heap.size w w' := by
  obtain ⟨_, _, h1, h4, h2, h3⟩ := awOk_bd hok
  have hm := max1_ge (rawR l fr sh se)
  have HC := Lib.hid hc
  obtain ⟨⟨c0, c1, c2, c3⟩, c4, c5, c6⟩ := hc
  by_cases h : max1 (rawR l fr sh se) ≤ 1000000
  · have HE := Lib.hid (show resA s f t l se fr sh = max1 (rawR l fr sh se) ∧ resB s f t l se fr sh = 0 by simp [resA, resB, hok, h])
    clear hok
    go_enter Try.func138, Try.ntmps138
    go_wp2_with (first
          | (go_at_call 167; refine (l03Raw_below b s f t l se fr sh se w HC.out h1 h2 h3 h4).mono ?_; rintro e w1 ⟨rfl, hd1⟩; have hb1 := hd1; obtain ⟨hc1, hf1⟩ := bcell hb1; clear hd1)
          | (go_at_call 157; refine (lmax1_any _ _).mono ?_; rintro e w' ⟨rfl, rfl⟩))
    go_ret2
    exact ⟨ret_two HE.out.1.symm HE.out.2.symm, hb1⟩
  · have HE := Lib.hid (show resA s f t l se fr sh = 0 ∧ resB s f t l se fr sh = 6 by simp [resA, resB, hok, h])
    clear hok
    go_enter Try.func138, Try.ntmps138
    go_wp2_with (first
          | (go_at_call 167; refine (l03Raw_below b s f t l se fr sh se w HC.out h1 h2 h3 h4).mono ?_; rintro e w1 ⟨rfl, hd1⟩; have hb1 := hd1; obtain ⟨hc1, hf1⟩ := bcell hb1; clear hd1)
          | (go_at_call 157; refine (lmax1_any _ _).mono ?_; rintro e w' ⟨rfl, rfl⟩))
    go_ret2
    exact ⟨ret_two HE.out.1.symm HE.out.2.symm, hb1⟩
theorem iResistanceOf_any (s : ByteArray) (f t l se fr sh : Int) (w : World) (hs : s.size ≤ maxLen) :
    Calls Try.prog 139 #[.agg #[.string s, .int .i64 f, .int .i64 t, .int .i64 l, .int .i64 se, .int .i64 fr, .int .i64 sh]] w fun e w' => e = .returned (.tuple #[.int .i64 (resA s f t l se fr sh), .int .i64 (resB s f t l se fr sh)]) ∧ Below w.heap.size w w' := by
  cases hok : awOk s f t l se fr sh
  · have HE := Lib.hid (show resA s f t l se fr sh = 0 ∧ resB s f t l se fr sh = 1 by simp [resA, resB, hok])
    go_enter Try.func139, Try.ntmps139
    go_wp2_with (first
          | (go_at_call 135; refine (iValidAirway_any s f t l se fr sh (w.alloc (.cells #[.string s, .int .i64 f, .int .i64 t, .int .i64 l, .int .i64 se, .int .i64 fr, .int .i64 sh] 138)) hs).mono ?_; rintro e w1 ⟨rfl, hd1⟩; have hb1 := hd1; obtain ⟨hc1, hf1⟩ := bcell hb1; have hz1 : w.heap.size < w1.heap.size := Nat.lt_of_lt_of_le (by simp) hb1.size; clear hd1))
    go_ret2
    exact ⟨ret_two HE.out.1.symm HE.out.2.symm, (show Below w.heap.size w w1 from (below_box _ _).trans (hb1.mono (by simp)))⟩
  · have HOK := Lib.hid hok
    by_cases h : max1 (rawR l fr sh se) ≤ 1000000
    · have HE := Lib.hid (show resA s f t l se fr sh = max1 (rawR l fr sh se) ∧ resB s f t l se fr sh = 0 by simp [resA, resB, hok, h])
      go_enter Try.func139, Try.ntmps139
      go_wp2_with (first
            | (go_at_call 135; refine (iValidAirway_any s f t l se fr sh (w.alloc (.cells #[.string s, .int .i64 f, .int .i64 t, .int .i64 l, .int .i64 se, .int .i64 fr, .int .i64 sh] 138)) hs).mono ?_; rintro e w1 ⟨rfl, hd1⟩; have hb1 := hd1; obtain ⟨hc1, hf1⟩ := bcell hb1; have hz1 : w.heap.size < w1.heap.size := Nat.lt_of_lt_of_le (by simp) hb1.size; clear hd1)
            | (go_at_call 168; refine (resistance_any s f t l se fr sh w1 HOK.out).mono ?_; rintro e w2 ⟨rfl, hd2⟩; have hb2 := hb1.trans (hd2.mono hb1.size); obtain ⟨hc2, hf2⟩ := bcell hb2; have hz2 : w.heap.size < w2.heap.size := Nat.lt_of_lt_of_le (by simp) hb2.size; clear hd2))
      go_ret2
      exact ⟨ret_two HE.out.1.symm HE.out.2.symm, (show Below w.heap.size w w2 from (below_box _ _).trans (hb2.mono (by simp)))⟩
    · have HE := Lib.hid (show resA s f t l se fr sh = 0 ∧ resB s f t l se fr sh = 6 by simp [resA, resB, hok, h])
      go_enter Try.func139, Try.ntmps139
      go_wp2_with (first
            | (go_at_call 135; refine (iValidAirway_any s f t l se fr sh (w.alloc (.cells #[.string s, .int .i64 f, .int .i64 t, .int .i64 l, .int .i64 se, .int .i64 fr, .int .i64 sh] 138)) hs).mono ?_; rintro e w1 ⟨rfl, hd1⟩; have hb1 := hd1; obtain ⟨hc1, hf1⟩ := bcell hb1; have hz1 : w.heap.size < w1.heap.size := Nat.lt_of_lt_of_le (by simp) hb1.size; clear hd1)
            | (go_at_call 168; refine (resistance_any s f t l se fr sh w1 HOK.out).mono ?_; rintro e w2 ⟨rfl, hd2⟩; have hb2 := hb1.trans (hd2.mono hb1.size); obtain ⟨hc2, hf2⟩ := bcell hb2; have hz2 : w.heap.size < w2.heap.size := Nat.lt_of_lt_of_le (by simp) hb2.size; clear hd2))
      go_ret2
      exact ⟨ret_two HE.out.1.symm HE.out.2.symm, (show Below w.heap.size w w2 from (below_box _ _).trans (hb2.mono (by simp)))⟩
end Go.Proofs.Ytddfhjolimkkmaa
