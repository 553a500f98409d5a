/-
  Contracts of the names of chapter 1. Conditions: those that each theorem states.
-/
import Derived.Test.YthbofhlfggkolaaBi
namespace Go.Proofs.Ythbofhlfggkolaa
open Go.RowKit
set_option linter.unusedVariables false

/-- The byte at k. -/
def byteAt (s : ByteArray) (k : Nat) : Int := ((s.data.toList.getD k 0).toNat : Int)
theorem byteAt_eq {s : ByteArray} {k : Nat} (h : k < s.size) : (s[k].toNat : Int) = byteAt s k := by
  unfold byteAt
  have h' : k < s.data.toList.length := by simpa using h
  rw [List.getD_eq_getElem?_getD, List.getElem?_eq_getElem h']
  rfl
theorem byteAt_bd (s : ByteArray) (k : Nat) : 0 ≤ byteAt s k ∧ byteAt s k ≤ 255 := by
  unfold byteAt
  have := (s.data.toList.getD k 0).toNat_lt
  omega
theorem empty_of_size {s : ByteArray} (h : s.size = 0) : s = ⟨#[]⟩ := by
  cases s with | mk d => cases d with | mk l => cases l with | nil => rfl | cons a t => simp [ByteArray.size] at h
theorem ne_of_size {s : ByteArray} (h : 0 < s.size) : s.toList.isEmpty = false := by
  rw [ByteArray.toList_eq]
  cases s with | mk d => cases d with | mk l => cases l with | nil => simp [ByteArray.size] at h | cons a t => rfl

def okc (c : Int) : Bool := inB c 97 122 || inB c 48 57
def okTo (s : ByteArray) : Nat → Bool
  | 0 => true
  | k + 1 => okTo s k && okc (byteAt s k)
theorem okTo_false {s : ByteArray} {k : Nat} (h : okc (byteAt s k) = false) : ∀ n, k < n → okTo s n = false
  | n + 1, hk => by
    rw [okTo]
    by_cases e : k = n
    · subst e; rw [h, Bool.and_false]
    · rw [okTo_false h n (by omega), Bool.false_and]
/-- Whether a text is a name. -/
def isNm (s : ByteArray) : Bool := decide (1 ≤ s.size) && decide (s.size ≤ 10) && inB (byteAt s 0) 97 122 && okTo s s.size

theorem l01Small_any (c : Int) (w : World) :
    Calls Try.prog 100 #[.int .u8 c] w fun e w' => e = .returned (.bool (inB c 97 122)) ∧ w = w' := by
  by_cases h1 : 97 ≤ c
  · by_cases h2 : c ≤ 122
    · rw [inB_true h1 h2]
      go_enter Try.func100, Try.ntmps100
      go_wp2
      go_ret
      exact ⟨rfl, rfl⟩
    · rw [inB_false (by omega)]
      go_enter Try.func100, Try.ntmps100
      go_wp2
      go_ret
      exact ⟨rfl, rfl⟩
  · rw [inB_false (by omega)]
    go_enter Try.func100, Try.ntmps100
    go_wp2
    go_ret
    exact ⟨rfl, rfl⟩
theorem l01Digit_any (c : Int) (w : World) :
    Calls Try.prog 101 #[.int .u8 c] w fun e w' => e = .returned (.bool (inB c 48 57)) ∧ w = w' := by
  by_cases h1 : 48 ≤ c
  · by_cases h2 : c ≤ 57
    · rw [inB_true h1 h2]
      go_enter Try.func101, Try.ntmps101
      go_wp2
      go_ret
      exact ⟨rfl, rfl⟩
    · rw [inB_false (by omega)]
      go_enter Try.func101, Try.ntmps101
      go_wp2
      go_ret
      exact ⟨rfl, rfl⟩
  · rw [inB_false (by omega)]
    go_enter Try.func101, Try.ntmps101
    go_wp2
    go_ret
    exact ⟨rfl, rfl⟩

theorem l01Name_any (s : ByteArray) (w : World) (hs : s.size ≤ maxLen) :
    Calls Try.prog 94 #[.string s] w fun e w' => e = .returned (.bool (isNm s)) ∧ w = w' := by
  unfold maxLen at hs
  by_cases h0 : s.size = 0
  · obtain rfl := empty_of_size h0
    clear h0 hs
    go_enter Try.func94, Try.ntmps94
    go_wp2_with ((first
        | (go_at_call 100; refine (l01Small_any _ _).mono ?_; rintro e w' ⟨rfl, rfl⟩)
        | (go_at_call 101; refine (l01Digit_any _ _).mono ?_; rintro e w' ⟨rfl, rfl⟩)))
    go_ret
    exact ⟨rfl, rfl⟩
  · have hp : 0 < s.size := by omega
    have hb0 := byteAt_eq hp
    have hne := ne_of_size hp
    by_cases h10 : s.size ≤ 10
    · have hin : inB (s.size : Int) 1 10 = true := inB_true (by omega) (by omega)
      cases hc0 : inB (byteAt s 0) 97 122
      · have HE := Lib.hid (show isNm s = false by unfold isNm; rw [hc0, Bool.and_false, Bool.false_and])
        go_enter Try.func94, Try.ntmps94
        go_wp2_with ((first
        | (go_at_call 100; refine (l01Small_any _ _).mono ?_; rintro e w' ⟨rfl, rfl⟩)
        | (go_at_call 101; refine (l01Digit_any _ _).mono ?_; rintro e w' ⟨rfl, rfl⟩)))
        go_ret
        exact ⟨ret_bool HE.out.symm, rfl⟩
      · have HE := Lib.hid (show isNm s = okTo s s.size by unfold isNm; rw [hc0]; simp [h10]; omega)
        go_enter Try.func94, Try.ntmps94
        go_wp2_with ((first
        | (go_at_call 100; refine (l01Small_any _ _).mono ?_; rintro e w' ⟨rfl, rfl⟩)
        | (go_at_call 101; refine (l01Digit_any _ _).mono ?_; rintro e w' ⟨rfl, rfl⟩)))
        go_loop [3] (fun i => ∃ k : Nat, k ≤ s.size ∧ okTo s k = true ∧ i = .int .i64 k) (fun i => s.size - (intOf i).toNat)
        case atStart => exact ⟨0, by omega, rfl, rfl⟩
        case round =>
          obtain ⟨k, hk, hok, rfl⟩ := hrel
          clear hb0 hne hc0 hin
          by_cases hlt : k < s.size
          · have hbk := byteAt_eq hlt
            have HX := Lib.hid (show okTo s (k + 1) = okc (byteAt s k) by rw [okTo, hok, Bool.true_and])
            have HF := Lib.hid (okTo_false (s := s) (k := k))
            clear hok
            cases ha : inB (byteAt s k) 97 122
            · cases hb : inB (byteAt s k) 48 57
              · have HY := Lib.hid (show isNm s = false by rw [HE.out]; exact HF.out (by unfold okc; rw [ha, hb]; rfl) _ hlt)
                go_wp2_with ((first
                | (go_at_call 100; refine (l01Small_any _ _).mono ?_; rintro e w' ⟨rfl, rfl⟩)
                | (go_at_call 101; refine (l01Digit_any _ _).mono ?_; rintro e w' ⟨rfl, rfl⟩)))
                go_ret
                exact ⟨ret_bool HY.out.symm, rfl⟩
              · have HY := Lib.hid (show okTo s (k + 1) = true by rw [HX.out]; unfold okc; rw [ha, hb]; rfl)
                go_wp2_with ((first
                | (go_at_call 100; refine (l01Small_any _ _).mono ?_; rintro e w' ⟨rfl, rfl⟩)
                | (go_at_call 101; refine (l01Digit_any _ _).mono ?_; rintro e w' ⟨rfl, rfl⟩)))
                go_round
                case rel => exact ⟨k + 1, by omega, HY.out, by go_num⟩
                case measure => simp [intOf]; omega
            · have HY := Lib.hid (show okTo s (k + 1) = true by rw [HX.out]; unfold okc; rw [ha]; rfl)
              go_wp2_with ((first
                | (go_at_call 100; refine (l01Small_any _ _).mono ?_; rintro e w' ⟨rfl, rfl⟩)
                | (go_at_call 101; refine (l01Digit_any _ _).mono ?_; rintro e w' ⟨rfl, rfl⟩)))
              go_round
              case rel => exact ⟨k + 1, by omega, HY.out, by go_num⟩
              case measure => simp [intOf]; omega
          · have HY := Lib.hid (show isNm s = true by rw [HE.out, show s.size = k by omega]; exact hok)
            clear hok
            go_wp2
            go_ret
            exact ⟨ret_bool HY.out.symm, rfl⟩
    · have hin : inB (s.size : Int) 1 10 = false := inB_false (by omega)
      have HE := Lib.hid (show isNm s = false by unfold isNm; simp [h10])
      go_enter Try.func94, Try.ntmps94
      go_wp2_with ((first
        | (go_at_call 100; refine (l01Small_any _ _).mono ?_; rintro e w' ⟨rfl, rfl⟩)
        | (go_at_call 101; refine (l01Digit_any _ _).mono ?_; rintro e w' ⟨rfl, rfl⟩)))
      go_ret
      exact ⟨ret_bool HE.out.symm, rfl⟩

theorem iIsName_any (s : ByteArray) (w : World) (hs : s.size ≤ maxLen) :
    Calls Try.prog 80 #[.string s] w fun e w' => e = .returned (.bool (isNm s)) ∧ Below w.heap.size w w' := by
  unfold maxLen at hs
  by_cases h0 : s.size = 0
  · obtain rfl := empty_of_size h0
    clear h0 hs
    go_enter Try.func80, Try.ntmps80
    go_wp2_with (first
        | (go_at_call 95; (with_reducible refine (withinN_one _ _ _ _ _ _ (by simp)).mono ?_); rintro e w' ⟨rfl, rfl⟩)
        | (go_at_call 96; (with_reducible refine (within8_one _ _ _ _ _ _ (by simp)).mono ?_); rintro e w' ⟨rfl, rfl⟩))
    go_ret
    exact ⟨rfl, (by repeat (first | (with_reducible assumption) | (with_reducible exact Below.refl _ _) | (with_reducible refine Below.alloc ?_ (by first | omega | (simp; done) | (simp; omega)) _)))⟩
  · have hp : 0 < s.size := by omega
    have hb0 := byteAt_eq hp
    have hne := ne_of_size hp
    by_cases h10 : s.size ≤ 10
    · have hin : inB (s.size : Int) 1 10 = true := inB_true (by omega) (by omega)
      cases hc0 : inB (byteAt s 0) 97 122
      · have HE := Lib.hid (show isNm s = false by unfold isNm; rw [hc0, Bool.and_false, Bool.false_and])
        go_enter Try.func80, Try.ntmps80
        go_wp2_with (first
        | (go_at_call 95; (with_reducible refine (withinN_one _ _ _ _ _ _ (by simp)).mono ?_); rintro e w' ⟨rfl, rfl⟩)
        | (go_at_call 96; (with_reducible refine (within8_one _ _ _ _ _ _ (by simp)).mono ?_); rintro e w' ⟨rfl, rfl⟩))
        go_ret
        exact ⟨ret_bool HE.out.symm, (by repeat (first | (with_reducible assumption) | (with_reducible exact Below.refl _ _) | (with_reducible refine Below.alloc ?_ (by first | omega | (simp; done) | (simp; omega)) _)))⟩
      · have HE := Lib.hid (show isNm s = okTo s s.size by unfold isNm; rw [hc0]; simp [h10]; omega)
        go_enter Try.func80, Try.ntmps80
        go_wp2_with (first
        | (go_at_call 95; (with_reducible refine (withinN_one _ _ _ _ _ _ (by simp)).mono ?_); rintro e w' ⟨rfl, rfl⟩)
        | (go_at_call 96; (with_reducible refine (within8_one _ _ _ _ _ _ (by simp)).mono ?_); rintro e w' ⟨rfl, rfl⟩))
        go_loopw [18] (fun i wr => ∃ k : Nat, k ≤ s.size ∧ okTo s k = true ∧ i = .int .i64 k ∧ Below w.heap.size w wr) (fun i wr => s.size - (intOf i).toNat)
        case atStart => exact ⟨0, by omega, rfl, rfl, (by repeat (first | (with_reducible assumption) | (with_reducible exact Below.refl _ _) | (with_reducible refine Below.alloc ?_ (by first | omega | (simp; done) | (simp; omega)) _)))⟩
        case round =>
          obtain ⟨k, hk, hok, rfl, hbel⟩ := hrel
          have hsz := hbel.size
          clear hb0 hne hc0 hin
          obtain ⟨wo, rfl⟩ : ∃ wo : World, wo = wr := ⟨_, rfl⟩
          by_cases hlt : k < s.size
          · have hbk := byteAt_eq hlt
            have HX := Lib.hid (show okTo s (k + 1) = okc (byteAt s k) by rw [okTo, hok, Bool.true_and])
            have HF := Lib.hid (okTo_false (s := s) (k := k))
            clear hok
            cases ha : inB (byteAt s k) 97 122
            · cases hb : inB (byteAt s k) 48 57
              · have HY := Lib.hid (show isNm s = false by rw [HE.out]; exact HF.out (by unfold okc; rw [ha, hb]; rfl) _ hlt)
                go_wp2_with (first
        | (go_at_call 95; (with_reducible refine (withinN_one _ _ _ _ _ _ (by simp)).mono ?_); rintro e w' ⟨rfl, rfl⟩)
        | (go_at_call 96; (with_reducible refine (within8_one _ _ _ _ _ _ (by simp)).mono ?_); rintro e w' ⟨rfl, rfl⟩))
                go_ret
                exact ⟨ret_bool HY.out.symm, (by repeat (first | (with_reducible assumption) | (with_reducible exact Below.refl _ _) | (with_reducible refine Below.alloc ?_ (by first | omega | (simp; done) | (simp; omega)) _)))⟩
              · have HY := Lib.hid (show okTo s (k + 1) = true by rw [HX.out]; unfold okc; rw [ha, hb]; rfl)
                go_wp2_with (first
        | (go_at_call 95; (with_reducible refine (withinN_one _ _ _ _ _ _ (by simp)).mono ?_); rintro e w' ⟨rfl, rfl⟩)
        | (go_at_call 96; (with_reducible refine (within8_one _ _ _ _ _ _ (by simp)).mono ?_); rintro e w' ⟨rfl, rfl⟩))
                go_roundw
                case rel => exact ⟨k + 1, by omega, HY.out, by go_num, (by repeat (first | (with_reducible assumption) | (with_reducible exact Below.refl _ _) | (with_reducible refine Below.alloc ?_ (by first | omega | (simp; done) | (simp; omega)) _)))⟩
                case measure => simp [intOf]; omega
            · have HY := Lib.hid (show okTo s (k + 1) = true by rw [HX.out]; unfold okc; rw [ha]; rfl)
              go_wp2_with (first
        | (go_at_call 95; (with_reducible refine (withinN_one _ _ _ _ _ _ (by simp)).mono ?_); rintro e w' ⟨rfl, rfl⟩)
        | (go_at_call 96; (with_reducible refine (within8_one _ _ _ _ _ _ (by simp)).mono ?_); rintro e w' ⟨rfl, rfl⟩))
              go_roundw
              case rel => exact ⟨k + 1, by omega, HY.out, by go_num, (by repeat (first | (with_reducible assumption) | (with_reducible exact Below.refl _ _) | (with_reducible refine Below.alloc ?_ (by first | omega | (simp; done) | (simp; omega)) _)))⟩
              case measure => simp [intOf]; omega
          · have HY := Lib.hid (show isNm s = true by rw [HE.out, show s.size = k by omega]; exact hok)
            clear hok
            go_wp2
            go_ret
            exact ⟨ret_bool HY.out.symm, (by repeat (first | (with_reducible assumption) | (with_reducible exact Below.refl _ _) | (with_reducible refine Below.alloc ?_ (by first | omega | (simp; done) | (simp; omega)) _)))⟩
    · have hin : inB (s.size : Int) 1 10 = false := inB_false (by omega)
      have HE := Lib.hid (show isNm s = false by unfold isNm; simp [h10])
      go_enter Try.func80, Try.ntmps80
      go_wp2_with (first
        | (go_at_call 95; (with_reducible refine (withinN_one _ _ _ _ _ _ (by simp)).mono ?_); rintro e w' ⟨rfl, rfl⟩)
        | (go_at_call 96; (with_reducible refine (within8_one _ _ _ _ _ _ (by simp)).mono ?_); rintro e w' ⟨rfl, rfl⟩))
      go_ret
      exact ⟨ret_bool HE.out.symm, (by repeat (first | (with_reducible assumption) | (with_reducible exact Below.refl _ _) | (with_reducible refine Below.alloc ?_ (by first | omega | (simp; done) | (simp; omega)) _)))⟩

end Go.Proofs.Ythbofhlfggkolaa
