/-
  Contracts of chapter 3: volumes, speeds, times, limits of flows; the model's and the program's. Conditions: those that each theorem states.
-/
import Derived.Test.YtkldgmgjbboiaabDe
namespace Go.Proofs.Ytkldgmgjbboiaab
open Go.RowKit
set_option linter.unusedVariables false

/-- What VolumeOf returns. -/
def volA (s : ByteArray) (f t l se fr sh : Int) : Int := if awOk s f t l se fr sh then l * se else 0
def volB (s : ByteArray) (f t l se fr sh : Int) : Int := if awOk s f t l se fr sh then 0 else 1
theorem vol_bd {l se : Int} (h1 : 1 ≤ l ∧ l ≤ 10000) (h4 : 50 ≤ se ∧ se ≤ 5000) : 50 ≤ l * se ∧ l * se ≤ 50000000 := by
  have a := mul_nn (p := l) (q := se) (A := 10000) (B := 5000) (by omega) (by omega) (by omega) (by omega)
  have b : 1 * 50 ≤ l * se := Int.mul_le_mul h1.1 h4.1 (by omega) (by omega)
  omega
theorem volume_any (s : ByteArray) (f t l se fr sh : Int) (w : World) (hok : awOk s f t l se fr sh = true) :
    Calls Try.prog 59 #[.agg #[.string s, .int .i64 f, .int .i64 t, .int .i64 l, .int .i64 se, .int .i64 fr, .int .i64 sh]] w fun e w' => e = .returned (.int .i64 (l * se)) ∧ Below w.heap.size w w' := by
  obtain ⟨_, _, h1, h4, h2, h3⟩ := awOk_bd hok
  obtain ⟨v1, v2⟩ := vol_bd h1 h4
  clear hok
  go_enter Try.func59, Try.ntmps59
  go_wp2
  go_ret
  exact ⟨rfl, (by repeat (first | (with_reducible exact Below.refl _ _) | (with_reducible refine below_drewN' ?_ _) | (with_reducible refine Below.alloc ?_ (by simp <;> omega) _) | (with_reducible refine Below.setCell ?_ (by simp) _)))⟩
theorem sVolumeOf_any (s : ByteArray) (f t l se fr sh : Int) (w : World) (hs : s.size ≤ maxLen) :
    Calls Try.prog 28 #[.agg #[.string s, .int .i64 f, .int .i64 t, .int .i64 l, .int .i64 se, .int .i64 fr, .int .i64 sh]] w fun e w' => e = .returned (.tuple #[.int .i64 (volA s f t l se fr sh), .int .i64 (volB s f t l se fr sh)]) ∧ Below w.heap.size w w' := by
  cases hok : awOk s f t l se fr sh
  · have HE := Lib.hid (show volA s f t l se fr sh = 0 ∧ volB s f t l se fr sh = 1 by simp [volA, volB, hok])
    go_enter Try.func28, Try.ntmps28
    go_wp2_with (first
          | (go_at_call 39; refine (l03Ok_below w.heap.size s f t l se fr sh (w.alloc (.cells #[.string s, .int .i64 f, .int .i64 t, .int .i64 l, .int .i64 se, .int .i64 fr, .int .i64 sh] 26)) hs (boxed s f t l se fr sh w)).mono ?_; rintro e w1 ⟨rfl, hd1⟩; have hb1 := hd1; obtain ⟨hc1, hf1⟩ := bcell hb1; have hz1 : w.heap.size < w1.heap.size := Nat.lt_of_lt_of_le (by simp) hb1.size; clear hd1))
    go_ret2
    exact ⟨ret_two HE.out.1.symm HE.out.2.symm, (show Below w.heap.size w w1 from (below_box _ _).trans (hb1.mono (by simp)))⟩
  · have HE := Lib.hid (show volA s f t l se fr sh = l * se ∧ volB s f t l se fr sh = 0 by simp [volA, volB, hok])
    have HOK := Lib.hid hok
    obtain ⟨_, _, h1, h4, h2, h3⟩ := awOk_bd hok
    obtain ⟨v1, v2⟩ := vol_bd h1 h4
    go_enter Try.func28, Try.ntmps28
    go_wp2_with (first
          | (go_at_call 39; refine (l03Ok_below w.heap.size s f t l se fr sh (w.alloc (.cells #[.string s, .int .i64 f, .int .i64 t, .int .i64 l, .int .i64 se, .int .i64 fr, .int .i64 sh] 26)) hs (boxed s f t l se fr sh w)).mono ?_; rintro e w1 ⟨rfl, hd1⟩; have hb1 := hd1; obtain ⟨hc1, hf1⟩ := bcell hb1; have hz1 : w.heap.size < w1.heap.size := Nat.lt_of_lt_of_le (by simp) hb1.size; clear hd1))
    go_ret2
    exact ⟨ret_two HE.out.1.symm HE.out.2.symm, (show Below w.heap.size w w1 from (below_box _ _).trans (hb1.mono (by simp)))⟩
theorem iVolumeOf_any (s : ByteArray) (f t l se fr sh : Int) (w : World) (hs : s.size ≤ maxLen) :
    Calls Try.prog 29 #[.agg #[.string s, .int .i64 f, .int .i64 t, .int .i64 l, .int .i64 se, .int .i64 fr, .int .i64 sh]] w fun e w' => e = .returned (.tuple #[.int .i64 (volA s f t l se fr sh), .int .i64 (volB s f t l se fr sh)]) ∧ Below w.heap.size w w' := by
  cases hok : awOk s f t l se fr sh
  · have HE := Lib.hid (show volA s f t l se fr sh = 0 ∧ volB s f t l se fr sh = 1 by simp [volA, volB, hok])
    go_enter Try.func29, Try.ntmps29
    go_wp2_with (first
          | (go_at_call 17; refine (iValidAirway_any s f t l se fr sh (w.alloc (.cells #[.string s, .int .i64 f, .int .i64 t, .int .i64 l, .int .i64 se, .int .i64 fr, .int .i64 sh] 26)) hs).mono ?_; rintro e w1 ⟨rfl, hd1⟩; have hb1 := hd1; obtain ⟨hc1, hf1⟩ := bcell hb1; have hz1 : w.heap.size < w1.heap.size := Nat.lt_of_lt_of_le (by simp) hb1.size; clear hd1))
    go_ret2
    exact ⟨ret_two HE.out.1.symm HE.out.2.symm, (show Below w.heap.size w w1 from (below_box _ _).trans (hb1.mono (by simp)))⟩
  · have HE := Lib.hid (show volA s f t l se fr sh = l * se ∧ volB s f t l se fr sh = 0 by simp [volA, volB, hok])
    have HOK := Lib.hid hok
    obtain ⟨_, _, h1, h4, h2, h3⟩ := awOk_bd hok
    obtain ⟨v1, v2⟩ := vol_bd h1 h4
    go_enter Try.func29, Try.ntmps29
    go_wp2_with (first
          | (go_at_call 17; refine (iValidAirway_any s f t l se fr sh (w.alloc (.cells #[.string s, .int .i64 f, .int .i64 t, .int .i64 l, .int .i64 se, .int .i64 fr, .int .i64 sh] 26)) hs).mono ?_; rintro e w1 ⟨rfl, hd1⟩; have hb1 := hd1; obtain ⟨hc1, hf1⟩ := bcell hb1; have hz1 : w.heap.size < w1.heap.size := Nat.lt_of_lt_of_le (by simp) hb1.size; clear hd1)
          | (go_at_call 59; refine (volume_any s f t l se fr sh w1 HOK.out).mono ?_; rintro e w2 ⟨rfl, hd2⟩; have hb2 := hb1.trans (hd2.mono hb1.size); obtain ⟨hc2, hf2⟩ := bcell hb2; have hz2 : w.heap.size < w2.heap.size := Nat.lt_of_lt_of_le (by simp) hb2.size; clear hd2))
    go_ret2
    exact ⟨ret_two HE.out.1.symm HE.out.2.symm, (show Below w.heap.size w w2 from (below_box _ _).trans (hb2.mono (by simp)))⟩
/-- The code of an airway and a flow. -/
def askR (s : ByteArray) (f t l se fr sh : Int) (q : Int) : Int := if awOk s f t l se fr sh then (if inB q (-100000) 100000 then 0 else 2) else 1
theorem l03Ask_any (b : Nat) (s : ByteArray) (f t l se fr sh : Int) (q : Int) (w : World) (hs : s.size ≤ maxLen) (hc : AwAt w b s f t l se fr sh) :
    Calls Try.prog 54 #[.pointer (some ⟨b, 0, none⟩), .int .i64 q] w fun e w' => e = .returned (.int .i64 (askR s f t l se fr sh q)) ∧ Below w.heap.size w w' := by
  have HC := Lib.hid hc
  cases hok : awOk s f t l se fr sh
  · have HE := Lib.hid (show askR s f t l se fr sh q = 1 by simp [askR, hok])
    go_enter Try.func54, Try.ntmps54
    go_wp2_with (first
          | (go_at_call 39; refine (l03Ok_below b s f t l se fr sh w hs HC.out).mono ?_; rintro e w1 ⟨rfl, hd1⟩; have hb1 := hd1; obtain ⟨hc1, hf1⟩ := bcell hb1; clear hd1)
          | (go_at_call 45; refine (l03Flow_any _ _).mono ?_; rintro e w' ⟨rfl, rfl⟩))
    go_ret
    exact ⟨ret_int HE.out.symm, hb1⟩
  · cases hq : inB q (-100000) 100000
    · have HE := Lib.hid (show askR s f t l se fr sh q = 2 by simp [askR, hok, hq])
      go_enter Try.func54, Try.ntmps54
      go_wp2_with (first
            | (go_at_call 39; refine (l03Ok_below b s f t l se fr sh w hs HC.out).mono ?_; rintro e w1 ⟨rfl, hd1⟩; have hb1 := hd1; obtain ⟨hc1, hf1⟩ := bcell hb1; clear hd1)
            | (go_at_call 45; refine (l03Flow_any _ _).mono ?_; rintro e w' ⟨rfl, rfl⟩))
      go_ret
      exact ⟨ret_int HE.out.symm, hb1⟩
    · have HE := Lib.hid (show askR s f t l se fr sh q = 0 by simp [askR, hok, hq])
      go_enter Try.func54, Try.ntmps54
      go_wp2_with (first
            | (go_at_call 39; refine (l03Ok_below b s f t l se fr sh w hs HC.out).mono ?_; rintro e w1 ⟨rfl, hd1⟩; have hb1 := hd1; obtain ⟨hc1, hf1⟩ := bcell hb1; clear hd1)
            | (go_at_call 45; refine (l03Flow_any _ _).mono ?_; rintro e w' ⟨rfl, rfl⟩))
      go_ret
      exact ⟨ret_int HE.out.symm, hb1⟩
/-- What SpeedOf returns. -/
def spdA (s : ByteArray) (f t l se fr sh : Int) (q : Int) : Int := if awOk s f t l se fr sh then (if inB q (-100000) 100000 then divR (100 * q) se else 0) else 0
def spdB (s : ByteArray) (f t l se fr sh : Int) (q : Int) : Int := if awOk s f t l se fr sh then (if inB q (-100000) 100000 then 0 else 2) else 1
theorem sSpeedOf_any (s : ByteArray) (f t l se fr sh : Int) (q : Int) (w : World) (hs : s.size ≤ maxLen) :
    Calls Try.prog 24 #[.agg #[.string s, .int .i64 f, .int .i64 t, .int .i64 l, .int .i64 se, .int .i64 fr, .int .i64 sh], .int .i64 q] w fun e w' => e = .returned (.tuple #[.int .i64 (spdA s f t l se fr sh q), .int .i64 (spdB s f t l se fr sh q)]) ∧ Below w.heap.size w w' := by
  cases hok : awOk s f t l se fr sh
  · have HE := Lib.hid (show spdA s f t l se fr sh q = 0 ∧ spdB s f t l se fr sh q = 1 by simp [spdA, spdB, hok])
    have HK := Lib.hid (show askR s f t l se fr sh q = 1 by simp [askR, hok])
    go_enter Try.func24, Try.ntmps24
    go_wp2_with (first
          | (go_at_call 54; refine ((l03Ask_any w.heap.size s f t l se fr sh q (w.alloc (.cells #[.string s, .int .i64 f, .int .i64 t, .int .i64 l, .int .i64 se, .int .i64 fr, .int .i64 sh] 26)) hs (boxed s f t l se fr sh w)).mono (R' := fun e w' => e = .returned (.int .i64 (1)) ∧ Below (w.alloc (.cells #[.string s, .int .i64 f, .int .i64 t, .int .i64 l, .int .i64 se, .int .i64 fr, .int .i64 sh] 26)).heap.size (w.alloc (.cells #[.string s, .int .i64 f, .int .i64 t, .int .i64 l, .int .i64 se, .int .i64 fr, .int .i64 sh] 26)) w') (fun _ _ h => HK.out ▸ h)).mono ?_; rintro e w1 ⟨rfl, hd1⟩; have hb1 := hd1; obtain ⟨hc1, hf1⟩ := bcell hb1; have hz1 : w.heap.size < w1.heap.size := Nat.lt_of_lt_of_le (by simp) hb1.size; clear hd1))
    go_ret2
    exact ⟨ret_two HE.out.1.symm HE.out.2.symm, (show Below w.heap.size w w1 from (below_box _ _).trans (hb1.mono (by simp)))⟩
  · have HOK := Lib.hid hok
    cases hq : inB q (-100000) 100000
    · have HE := Lib.hid (show spdA s f t l se fr sh q = 0 ∧ spdB s f t l se fr sh q = 2 by simp [spdA, spdB, hok, hq])
      have HK := Lib.hid (show askR s f t l se fr sh q = 2 by simp [askR, hok, hq])
      go_enter Try.func24, Try.ntmps24
      go_wp2_with (first
            | (go_at_call 54; refine ((l03Ask_any w.heap.size s f t l se fr sh q (w.alloc (.cells #[.string s, .int .i64 f, .int .i64 t, .int .i64 l, .int .i64 se, .int .i64 fr, .int .i64 sh] 26)) hs (boxed s f t l se fr sh w)).mono (R' := fun e w' => e = .returned (.int .i64 (2)) ∧ Below (w.alloc (.cells #[.string s, .int .i64 f, .int .i64 t, .int .i64 l, .int .i64 se, .int .i64 fr, .int .i64 sh] 26)).heap.size (w.alloc (.cells #[.string s, .int .i64 f, .int .i64 t, .int .i64 l, .int .i64 se, .int .i64 fr, .int .i64 sh] 26)) w') (fun _ _ h => HK.out ▸ h)).mono ?_; rintro e w1 ⟨rfl, hd1⟩; have hb1 := hd1; obtain ⟨hc1, hf1⟩ := bcell hb1; have hz1 : w.heap.size < w1.heap.size := Nat.lt_of_lt_of_le (by simp) hb1.size; clear hd1))
      go_ret2
      exact ⟨ret_two HE.out.1.symm HE.out.2.symm, (show Below w.heap.size w w1 from (below_box _ _).trans (hb1.mono (by simp)))⟩
    · have HE := Lib.hid (show spdA s f t l se fr sh q = divR (100 * q) se ∧ spdB s f t l se fr sh q = 0 by simp [spdA, spdB, hok, hq])
      have HK := Lib.hid (show askR s f t l se fr sh q = 0 by simp [askR, hok, hq])
      obtain ⟨_, _, h1, h4, h2, h3⟩ := awOk_bd hok
      have hqb := inB_iff.1 hq
      go_enter Try.func24, Try.ntmps24
      go_wp2_with (first
            | (go_at_call 54; refine ((l03Ask_any w.heap.size s f t l se fr sh q (w.alloc (.cells #[.string s, .int .i64 f, .int .i64 t, .int .i64 l, .int .i64 se, .int .i64 fr, .int .i64 sh] 26)) hs (boxed s f t l se fr sh w)).mono (R' := fun e w' => e = .returned (.int .i64 (0)) ∧ Below (w.alloc (.cells #[.string s, .int .i64 f, .int .i64 t, .int .i64 l, .int .i64 se, .int .i64 fr, .int .i64 sh] 26)).heap.size (w.alloc (.cells #[.string s, .int .i64 f, .int .i64 t, .int .i64 l, .int .i64 se, .int .i64 fr, .int .i64 sh] 26)) w') (fun _ _ h => HK.out ▸ h)).mono ?_; rintro e w1 ⟨rfl, hd1⟩; have hb1 := hd1; obtain ⟨hc1, hf1⟩ := bcell hb1; have hz1 : w.heap.size < w1.heap.size := Nat.lt_of_lt_of_le (by simp) hb1.size; clear hd1)
            | (go_at_call 55; refine (l01Div_any _ _ _ (by omega) (by omega) (by omega) (by omega) (by omega)).mono ?_; rintro e w' ⟨rfl, rfl⟩))
      go_ret2
      exact ⟨ret_two HE.out.1.symm HE.out.2.symm, (show Below w.heap.size w w1 from (below_box _ _).trans (hb1.mono (by simp)))⟩
theorem iSpeedOf_any (s : ByteArray) (f t l se fr sh : Int) (q : Int) (w : World) (hs : s.size ≤ maxLen) :
    Calls Try.prog 25 #[.agg #[.string s, .int .i64 f, .int .i64 t, .int .i64 l, .int .i64 se, .int .i64 fr, .int .i64 sh], .int .i64 q] w fun e w' => e = .returned (.tuple #[.int .i64 (spdA s f t l se fr sh q), .int .i64 (spdB s f t l se fr sh q)]) ∧ Below w.heap.size w w' := by
  cases hok : awOk s f t l se fr sh
  · have HE := Lib.hid (show spdA s f t l se fr sh q = 0 ∧ spdB s f t l se fr sh q = 1 by simp [spdA, spdB, hok])
    go_enter Try.func25, Try.ntmps25
    go_wp2_with (first
          | (go_at_call 17; refine (iValidAirway_any s f t l se fr sh (w.alloc (.cells #[.string s, .int .i64 f, .int .i64 t, .int .i64 l, .int .i64 se, .int .i64 fr, .int .i64 sh] 26)) hs).mono ?_; rintro e w1 ⟨rfl, hd1⟩; have hb1 := hd1; obtain ⟨hc1, hf1⟩ := bcell hb1; have hz1 : w.heap.size < w1.heap.size := Nat.lt_of_lt_of_le (by simp) hb1.size; clear hd1)
          | (go_at_call 48; refine (isFlow_any _ _).mono ?_; rintro e w' ⟨rfl, rfl⟩))
    go_ret2
    exact ⟨ret_two HE.out.1.symm HE.out.2.symm, (show Below w.heap.size w w1 from (below_box _ _).trans (hb1.mono (by simp)))⟩
  · have HOK := Lib.hid hok
    cases hq : inB q (-100000) 100000
    · have HE := Lib.hid (show spdA s f t l se fr sh q = 0 ∧ spdB s f t l se fr sh q = 2 by simp [spdA, spdB, hok, hq])
      go_enter Try.func25, Try.ntmps25
      go_wp2_with (first
            | (go_at_call 17; refine (iValidAirway_any s f t l se fr sh (w.alloc (.cells #[.string s, .int .i64 f, .int .i64 t, .int .i64 l, .int .i64 se, .int .i64 fr, .int .i64 sh] 26)) hs).mono ?_; rintro e w1 ⟨rfl, hd1⟩; have hb1 := hd1; obtain ⟨hc1, hf1⟩ := bcell hb1; have hz1 : w.heap.size < w1.heap.size := Nat.lt_of_lt_of_le (by simp) hb1.size; clear hd1)
            | (go_at_call 48; refine (isFlow_any _ _).mono ?_; rintro e w' ⟨rfl, rfl⟩))
      go_ret2
      exact ⟨ret_two HE.out.1.symm HE.out.2.symm, (show Below w.heap.size w w1 from (below_box _ _).trans (hb1.mono (by simp)))⟩
    · have HE := Lib.hid (show spdA s f t l se fr sh q = divR (100 * q) se ∧ spdB s f t l se fr sh q = 0 by simp [spdA, spdB, hok, hq])
      obtain ⟨_, _, h1, h4, h2, h3⟩ := awOk_bd hok
      have hqb := inB_iff.1 hq
      go_enter Try.func25, Try.ntmps25
      go_wp2_with (first
            | (go_at_call 17; refine (iValidAirway_any s f t l se fr sh (w.alloc (.cells #[.string s, .int .i64 f, .int .i64 t, .int .i64 l, .int .i64 se, .int .i64 fr, .int .i64 sh] 26)) hs).mono ?_; rintro e w1 ⟨rfl, hd1⟩; have hb1 := hd1; obtain ⟨hc1, hf1⟩ := bcell hb1; have hz1 : w.heap.size < w1.heap.size := Nat.lt_of_lt_of_le (by simp) hb1.size; clear hd1)
            | (go_at_call 48; refine (isFlow_any _ _).mono ?_; rintro e w' ⟨rfl, rfl⟩)
            | (go_at_call 56; refine (nearest_any _ _ _ (by omega) (by omega) (by omega) (by omega)).mono ?_; rintro e w2 ⟨rfl, n2, hq2⟩; have hd2 := below_drew hq2; clear hq2; have hb2 := hb1.trans (hd2.mono hb1.size); obtain ⟨hc2, hf2⟩ := bcell hb2; have hz2 : w.heap.size < w2.heap.size := Nat.lt_of_lt_of_le (by simp) hb2.size; clear hd2))
      go_ret2
      exact ⟨ret_two HE.out.1.symm HE.out.2.symm, (show Below w.heap.size w w2 from (below_box _ _).trans (hb2.mono (by simp)))⟩
end Go.Proofs.Ytkldgmgjbboiaab
