/-
  Contracts of chapter 3: airways: whether they are valid; the model's and the program's. Conditions: those that each theorem states.
-/
import Derived.Test.YthbofhlfggkolaaDa
namespace Go.Proofs.Ythbofhlfggkolaa
open Go.RowKit
set_option linter.unusedVariables false
set_option linter.unusedSimpArgs false

/-- A valid airway. -/
def awOk (s : ByteArray) (f t l se fr sh : Int) : Bool := isNm s && !(decide (f = t)) && inB f 0 15 && inB t 0 15 && inB l 1 10000 && inB se 50 5000 && inB fr 1 1000 && inB sh 0 1000
theorem awOk_bd {s : ByteArray} {f t l se fr sh : Int} (h : awOk s f t l se fr sh = true) : (isNm s = true ∧ f ≠ t) ∧ ((0 ≤ f ∧ f ≤ 15) ∧ (0 ≤ t ∧ t ≤ 15)) ∧ (1 ≤ l ∧ l ≤ 10000) ∧ (50 ≤ se ∧ se ≤ 5000) ∧ (1 ≤ fr ∧ fr ≤ 1000) ∧ (0 ≤ sh ∧ sh ≤ 1000) := by
  simp only [awOk, Bool.and_eq_true, inB_iff, Bool.not_eq_true', decide_eq_false_iff_not] at h
  obtain ⟨⟨⟨⟨⟨⟨⟨a, b⟩, c⟩, d⟩, e⟩, f⟩, g⟩, i⟩ := h
  exact ⟨⟨a, b⟩, ⟨c, d⟩, e, f, g, i⟩
/-- The cells of an airway at the head of a block. -/
def AwAt (w : World) (b : Nat) (s : ByteArray) (f t l se fr sh : Int) : Prop :=
  (w.cell? ⟨b, 0, none⟩ = some (.string s) ∧ w.cell? ⟨b, 1, none⟩ = some (.int .i64 f) ∧ w.cell? ⟨b, 2, none⟩ = some (.int .i64 t) ∧ w.cell? ⟨b, 3, none⟩ = some (.int .i64 l)) ∧
  w.cell? ⟨b, 4, none⟩ = some (.int .i64 se) ∧ w.cell? ⟨b, 5, none⟩ = some (.int .i64 fr) ∧ w.cell? ⟨b, 6, none⟩ = some (.int .i64 sh)
theorem quiet_lft {P : Program} {f : FuncId} {args : Array Value} {w : World} {n : Nat} {v : Value}
    (h : Calls P f args (w.drewN n) fun e w' => e = .returned v ∧ w.drewN n = w') : Calls P f args (w.drewN n) fun e w'' => e = .returned v ∧ ∃ m, w'' = w.drewN m :=
  h.mono fun _ _ ⟨he, hm⟩ => ⟨he, n, hm.symm⟩
theorem l03Ok_any (b : Nat) (s : ByteArray) (f t l se fr sh : Int) (w : World) (hs : s.size ≤ maxLen) (hc : AwAt w b s f t l se fr sh) :
    Calls Try.prog 74 #[.pointer (some ⟨b, 0, none⟩)] w fun e w' => e = .returned (.bool (awOk s f t l se fr sh)) ∧ ∃ n, w' = w.drewN n := by
  obtain ⟨⟨c0, c1, c2, c3⟩, c4, c5, c6⟩ := hc
  cases hn : isNm s
  · have HE := Lib.hid (show awOk s f t l se fr sh = false by simp [awOk, hn])
    go_enter Try.func74, Try.ntmps74
    go_wp2
    go_quiet ((first | (go_at_call 94; exact quiet_lft (l01Name_any s _ hs)) | (go_at_call 48; exact quiet_lft (l00In_any _ _ _ _))))
    go_wp2_with (first
          | (go_at_call 94; refine (l01Name_any s _ hs).mono ?_; rintro e w' ⟨rfl, rfl⟩)
          | (go_at_call 48; refine (l00In_any _ _ _ _).mono ?_; rintro e w' ⟨rfl, rfl⟩))
    go_ret
    exact ⟨ret_bool HE.out.symm, _, rfl⟩
  · by_cases hf : 0 ≤ f ∧ f ≤ 15
    · have jf := inB_true hf.1 hf.2
      by_cases ht : 0 ≤ t ∧ t ≤ 15
      · have jt := inB_true ht.1 ht.2
        by_cases hne : f = t
        · subst hne
          have HE := Lib.hid (show awOk s f f l se fr sh = false by simp [awOk])
          go_enter Try.func74, Try.ntmps74
          go_wp2
          go_quiet ((first | (go_at_call 94; exact quiet_lft (l01Name_any s _ hs)) | (go_at_call 48; exact quiet_lft (l00In_any _ _ _ _))))
          go_wp2_with (first
                | (go_at_call 94; refine (l01Name_any s _ hs).mono ?_; rintro e w' ⟨rfl, rfl⟩)
                | (go_at_call 48; refine (l00In_any _ _ _ _).mono ?_; rintro e w' ⟨rfl, rfl⟩))
          go_ret
          exact ⟨ret_bool HE.out.symm, _, rfl⟩
        · have hne2 : (f != t) = true := bne_iff_ne.2 hne
          by_cases hl : 1 ≤ l ∧ l ≤ 10000
          · have jl := inB_true hl.1 hl.2
            by_cases hse : 50 ≤ se ∧ se ≤ 5000
            · have jse := inB_true hse.1 hse.2
              by_cases hfr : 1 ≤ fr ∧ fr ≤ 1000
              · have jfr := inB_true hfr.1 hfr.2
                by_cases hsh : 0 ≤ sh ∧ sh ≤ 1000
                · have jsh := inB_true hsh.1 hsh.2
                  have HE := Lib.hid (show awOk s f t l se fr sh = true by simp [awOk, hn, jf, jt, hne, jl, jse, jfr, jsh])
                  go_enter Try.func74, Try.ntmps74
                  go_wp2
                  go_quiet ((first | (go_at_call 94; exact quiet_lft (l01Name_any s _ hs)) | (go_at_call 48; exact quiet_lft (l00In_any _ _ _ _))))
                  go_wp2_with (first
                        | (go_at_call 94; refine (l01Name_any s _ hs).mono ?_; rintro e w' ⟨rfl, rfl⟩)
                        | (go_at_call 48; refine (l00In_any _ _ _ _).mono ?_; rintro e w' ⟨rfl, rfl⟩))
                  go_ret
                  exact ⟨ret_bool HE.out.symm, _, rfl⟩
                · have jsh := inB_false hsh
                  have HE := Lib.hid (show awOk s f t l se fr sh = false by simp [awOk, jsh])
                  go_enter Try.func74, Try.ntmps74
                  go_wp2
                  go_quiet ((first | (go_at_call 94; exact quiet_lft (l01Name_any s _ hs)) | (go_at_call 48; exact quiet_lft (l00In_any _ _ _ _))))
                  go_wp2_with (first
                        | (go_at_call 94; refine (l01Name_any s _ hs).mono ?_; rintro e w' ⟨rfl, rfl⟩)
                        | (go_at_call 48; refine (l00In_any _ _ _ _).mono ?_; rintro e w' ⟨rfl, rfl⟩))
                  go_ret
                  exact ⟨ret_bool HE.out.symm, _, rfl⟩
              · have jfr := inB_false hfr
                have HE := Lib.hid (show awOk s f t l se fr sh = false by simp [awOk, jfr])
                go_enter Try.func74, Try.ntmps74
                go_wp2
                go_quiet ((first | (go_at_call 94; exact quiet_lft (l01Name_any s _ hs)) | (go_at_call 48; exact quiet_lft (l00In_any _ _ _ _))))
                go_wp2_with (first
                      | (go_at_call 94; refine (l01Name_any s _ hs).mono ?_; rintro e w' ⟨rfl, rfl⟩)
                      | (go_at_call 48; refine (l00In_any _ _ _ _).mono ?_; rintro e w' ⟨rfl, rfl⟩))
                go_ret
                exact ⟨ret_bool HE.out.symm, _, rfl⟩
            · have jse := inB_false hse
              have HE := Lib.hid (show awOk s f t l se fr sh = false by simp [awOk, jse])
              go_enter Try.func74, Try.ntmps74
              go_wp2
              go_quiet ((first | (go_at_call 94; exact quiet_lft (l01Name_any s _ hs)) | (go_at_call 48; exact quiet_lft (l00In_any _ _ _ _))))
              go_wp2_with (first
                    | (go_at_call 94; refine (l01Name_any s _ hs).mono ?_; rintro e w' ⟨rfl, rfl⟩)
                    | (go_at_call 48; refine (l00In_any _ _ _ _).mono ?_; rintro e w' ⟨rfl, rfl⟩))
              go_ret
              exact ⟨ret_bool HE.out.symm, _, rfl⟩
          · have jl := inB_false hl
            have HE := Lib.hid (show awOk s f t l se fr sh = false by simp [awOk, jl])
            go_enter Try.func74, Try.ntmps74
            go_wp2
            go_quiet ((first | (go_at_call 94; exact quiet_lft (l01Name_any s _ hs)) | (go_at_call 48; exact quiet_lft (l00In_any _ _ _ _))))
            go_wp2_with (first
                  | (go_at_call 94; refine (l01Name_any s _ hs).mono ?_; rintro e w' ⟨rfl, rfl⟩)
                  | (go_at_call 48; refine (l00In_any _ _ _ _).mono ?_; rintro e w' ⟨rfl, rfl⟩))
            go_ret
            exact ⟨ret_bool HE.out.symm, _, rfl⟩
      · have jt := inB_false ht
        have HE := Lib.hid (show awOk s f t l se fr sh = false by simp [awOk, jt])
        go_enter Try.func74, Try.ntmps74
        go_wp2
        go_quiet ((first | (go_at_call 94; exact quiet_lft (l01Name_any s _ hs)) | (go_at_call 48; exact quiet_lft (l00In_any _ _ _ _))))
        go_wp2_with (first
              | (go_at_call 94; refine (l01Name_any s _ hs).mono ?_; rintro e w' ⟨rfl, rfl⟩)
              | (go_at_call 48; refine (l00In_any _ _ _ _).mono ?_; rintro e w' ⟨rfl, rfl⟩))
        go_ret
        exact ⟨ret_bool HE.out.symm, _, rfl⟩
    · have jf := inB_false hf
      have HE := Lib.hid (show awOk s f t l se fr sh = false by simp [awOk, jf])
      go_enter Try.func74, Try.ntmps74
      go_wp2
      go_quiet ((first | (go_at_call 94; exact quiet_lft (l01Name_any s _ hs)) | (go_at_call 48; exact quiet_lft (l00In_any _ _ _ _))))
      go_wp2_with (first
            | (go_at_call 94; refine (l01Name_any s _ hs).mono ?_; rintro e w' ⟨rfl, rfl⟩)
            | (go_at_call 48; refine (l00In_any _ _ _ _).mono ?_; rintro e w' ⟨rfl, rfl⟩))
      go_ret
      exact ⟨ret_bool HE.out.symm, _, rfl⟩
set_option maxHeartbeats 1000000 in
theorem iValidAirway_any (s : ByteArray) (f t l se fr sh : Int) (w : World) (hs : s.size ≤ maxLen) :
    Calls Try.prog 78 #[.agg #[.string s, .int .i64 f, .int .i64 t, .int .i64 l, .int .i64 se, .int .i64 fr, .int .i64 sh]] w fun e w' => e = .returned (.bool (awOk s f t l se fr sh)) ∧ Below w.heap.size w w' := by
  cases hn : isNm s
  · have HE := Lib.hid (show awOk s f t l se fr sh = false by simp [awOk, hn])
    go_enter Try.func78, Try.ntmps78
    go_wp2_with (first
          | (go_at_call 80; (with_reducible refine (iIsName_any s _ hs).mono ?_); rintro e w1 ⟨rfl, hd⟩; have HB := (show Below w.heap.size w w1 from (below_box _ _).trans (hd.mono (by simp))); obtain ⟨hc, hf⟩ := bcell hd; have hz : w.heap.size < w1.heap.size := Nat.lt_of_lt_of_le (by simp) hd.size; have hn1 : ¬ (w.heap.size = w1.heap.size) := (by omega); have hz1 : w.heap.size < w1.heap.size + 1 := (by omega); have hz2 : w.heap.size < w1.heap.size + 1 + 1 := (by omega); have hz3 : w.heap.size < w1.heap.size + 1 + 1 + 1 := (by omega); have hz4 : w.heap.size < w1.heap.size + 1 + 1 + 1 + 1 := (by omega); have hn2 : ¬ (w.heap.size = w1.heap.size + 1) := (by omega); have hn3 : ¬ (w.heap.size = w1.heap.size + 1 + 1) := (by omega); have hn4 : ¬ (w.heap.size = w1.heap.size + 1 + 1 + 1) := (by omega); clear hd)
          | (go_at_call 54; (with_reducible refine (within64_two _ _ _ _ _ _ _ (by simp)).mono ?_); rintro e w' ⟨rfl, rfl⟩)
          | (go_at_call 54; (with_reducible refine (within64_one _ _ _ _ _ _ (by simp)).mono ?_); rintro e w' ⟨rfl, rfl⟩))
    go_ret
    exact ⟨ret_bool HE.out.symm, (by repeat (first | (with_reducible exact HB) | (with_reducible refine below_drewN' ?_ _) | (with_reducible refine Below.alloc ?_ (by first | omega | (simp <;> omega)) _)))⟩
  · by_cases hne : f = t
    · subst hne
      have HE := Lib.hid (show awOk s f f l se fr sh = false by simp [awOk])
      go_enter Try.func78, Try.ntmps78
      go_wp2_with (first
            | (go_at_call 80; (with_reducible refine (iIsName_any s _ hs).mono ?_); rintro e w1 ⟨rfl, hd⟩; have HB := (show Below w.heap.size w w1 from (below_box _ _).trans (hd.mono (by simp))); obtain ⟨hc, hf⟩ := bcell hd; have hz : w.heap.size < w1.heap.size := Nat.lt_of_lt_of_le (by simp) hd.size; have hn1 : ¬ (w.heap.size = w1.heap.size) := (by omega); have hz1 : w.heap.size < w1.heap.size + 1 := (by omega); have hz2 : w.heap.size < w1.heap.size + 1 + 1 := (by omega); have hz3 : w.heap.size < w1.heap.size + 1 + 1 + 1 := (by omega); have hz4 : w.heap.size < w1.heap.size + 1 + 1 + 1 + 1 := (by omega); have hn2 : ¬ (w.heap.size = w1.heap.size + 1) := (by omega); have hn3 : ¬ (w.heap.size = w1.heap.size + 1 + 1) := (by omega); have hn4 : ¬ (w.heap.size = w1.heap.size + 1 + 1 + 1) := (by omega); clear hd)
            | (go_at_call 54; (with_reducible refine (within64_two _ _ _ _ _ _ _ (by simp)).mono ?_); rintro e w' ⟨rfl, rfl⟩)
            | (go_at_call 54; (with_reducible refine (within64_one _ _ _ _ _ _ (by simp)).mono ?_); rintro e w' ⟨rfl, rfl⟩))
      go_ret
      exact ⟨ret_bool HE.out.symm, (by repeat (first | (with_reducible exact HB) | (with_reducible refine below_drewN' ?_ _) | (with_reducible refine Below.alloc ?_ (by first | omega | (simp <;> omega)) _)))⟩
    · have hne2 : (f != t) = true := bne_iff_ne.2 hne
      by_cases hft : (0 ≤ f ∧ f ≤ 15) ∧ (0 ≤ t ∧ t ≤ 15)
      · have ja : allR 0 15 [f, t] = true := by rw [allR_iff]; simpa using hft
        have jf := inB_true hft.1.1 hft.1.2
        have jt := inB_true hft.2.1 hft.2.2
        by_cases hl : 1 ≤ l ∧ l ≤ 10000
        · have jl := inB_true hl.1 hl.2
          by_cases hse : 50 ≤ se ∧ se ≤ 5000
          · have jse := inB_true hse.1 hse.2
            by_cases hfr : 1 ≤ fr ∧ fr ≤ 1000
            · have jfr := inB_true hfr.1 hfr.2
              by_cases hsh : 0 ≤ sh ∧ sh ≤ 1000
              · have jsh := inB_true hsh.1 hsh.2
                have HE := Lib.hid (show awOk s f t l se fr sh = true by simp [awOk, hn, hne, jf, jt, jl, jse, jfr, jsh])
                go_enter Try.func78, Try.ntmps78
                go_wp2_with (first
                      | (go_at_call 80; (with_reducible refine (iIsName_any s _ hs).mono ?_); rintro e w1 ⟨rfl, hd⟩; have HB := (show Below w.heap.size w w1 from (below_box _ _).trans (hd.mono (by simp))); obtain ⟨hc, hf⟩ := bcell hd; have hz : w.heap.size < w1.heap.size := Nat.lt_of_lt_of_le (by simp) hd.size; have hn1 : ¬ (w.heap.size = w1.heap.size) := (by omega); have hz1 : w.heap.size < w1.heap.size + 1 := (by omega); have hz2 : w.heap.size < w1.heap.size + 1 + 1 := (by omega); have hz3 : w.heap.size < w1.heap.size + 1 + 1 + 1 := (by omega); have hz4 : w.heap.size < w1.heap.size + 1 + 1 + 1 + 1 := (by omega); have hn2 : ¬ (w.heap.size = w1.heap.size + 1) := (by omega); have hn3 : ¬ (w.heap.size = w1.heap.size + 1 + 1) := (by omega); have hn4 : ¬ (w.heap.size = w1.heap.size + 1 + 1 + 1) := (by omega); clear hd)
                      | (go_at_call 54; (with_reducible refine (within64_two _ _ _ _ _ _ _ (by simp)).mono ?_); rintro e w' ⟨rfl, rfl⟩)
                      | (go_at_call 54; (with_reducible refine (within64_one _ _ _ _ _ _ (by simp)).mono ?_); rintro e w' ⟨rfl, rfl⟩))
                go_ret
                exact ⟨ret_bool HE.out.symm, (by repeat (first | (with_reducible exact HB) | (with_reducible refine below_drewN' ?_ _) | (with_reducible refine Below.alloc ?_ (by first | omega | (simp <;> omega)) _)))⟩
              · have jsh := inB_false hsh
                have HE := Lib.hid (show awOk s f t l se fr sh = false by simp [awOk, jsh])
                go_enter Try.func78, Try.ntmps78
                go_wp2_with (first
                      | (go_at_call 80; (with_reducible refine (iIsName_any s _ hs).mono ?_); rintro e w1 ⟨rfl, hd⟩; have HB := (show Below w.heap.size w w1 from (below_box _ _).trans (hd.mono (by simp))); obtain ⟨hc, hf⟩ := bcell hd; have hz : w.heap.size < w1.heap.size := Nat.lt_of_lt_of_le (by simp) hd.size; have hn1 : ¬ (w.heap.size = w1.heap.size) := (by omega); have hz1 : w.heap.size < w1.heap.size + 1 := (by omega); have hz2 : w.heap.size < w1.heap.size + 1 + 1 := (by omega); have hz3 : w.heap.size < w1.heap.size + 1 + 1 + 1 := (by omega); have hz4 : w.heap.size < w1.heap.size + 1 + 1 + 1 + 1 := (by omega); have hn2 : ¬ (w.heap.size = w1.heap.size + 1) := (by omega); have hn3 : ¬ (w.heap.size = w1.heap.size + 1 + 1) := (by omega); have hn4 : ¬ (w.heap.size = w1.heap.size + 1 + 1 + 1) := (by omega); clear hd)
                      | (go_at_call 54; (with_reducible refine (within64_two _ _ _ _ _ _ _ (by simp)).mono ?_); rintro e w' ⟨rfl, rfl⟩)
                      | (go_at_call 54; (with_reducible refine (within64_one _ _ _ _ _ _ (by simp)).mono ?_); rintro e w' ⟨rfl, rfl⟩))
                go_ret
                exact ⟨ret_bool HE.out.symm, (by repeat (first | (with_reducible exact HB) | (with_reducible refine below_drewN' ?_ _) | (with_reducible refine Below.alloc ?_ (by first | omega | (simp <;> omega)) _)))⟩
            · have jfr := inB_false hfr
              have HE := Lib.hid (show awOk s f t l se fr sh = false by simp [awOk, jfr])
              go_enter Try.func78, Try.ntmps78
              go_wp2_with (first
                    | (go_at_call 80; (with_reducible refine (iIsName_any s _ hs).mono ?_); rintro e w1 ⟨rfl, hd⟩; have HB := (show Below w.heap.size w w1 from (below_box _ _).trans (hd.mono (by simp))); obtain ⟨hc, hf⟩ := bcell hd; have hz : w.heap.size < w1.heap.size := Nat.lt_of_lt_of_le (by simp) hd.size; have hn1 : ¬ (w.heap.size = w1.heap.size) := (by omega); have hz1 : w.heap.size < w1.heap.size + 1 := (by omega); have hz2 : w.heap.size < w1.heap.size + 1 + 1 := (by omega); have hz3 : w.heap.size < w1.heap.size + 1 + 1 + 1 := (by omega); have hz4 : w.heap.size < w1.heap.size + 1 + 1 + 1 + 1 := (by omega); have hn2 : ¬ (w.heap.size = w1.heap.size + 1) := (by omega); have hn3 : ¬ (w.heap.size = w1.heap.size + 1 + 1) := (by omega); have hn4 : ¬ (w.heap.size = w1.heap.size + 1 + 1 + 1) := (by omega); clear hd)
                    | (go_at_call 54; (with_reducible refine (within64_two _ _ _ _ _ _ _ (by simp)).mono ?_); rintro e w' ⟨rfl, rfl⟩)
                    | (go_at_call 54; (with_reducible refine (within64_one _ _ _ _ _ _ (by simp)).mono ?_); rintro e w' ⟨rfl, rfl⟩))
              go_ret
              exact ⟨ret_bool HE.out.symm, (by repeat (first | (with_reducible exact HB) | (with_reducible refine below_drewN' ?_ _) | (with_reducible refine Below.alloc ?_ (by first | omega | (simp <;> omega)) _)))⟩
          · have jse := inB_false hse
            have HE := Lib.hid (show awOk s f t l se fr sh = false by simp [awOk, jse])
            go_enter Try.func78, Try.ntmps78
            go_wp2_with (first
                  | (go_at_call 80; (with_reducible refine (iIsName_any s _ hs).mono ?_); rintro e w1 ⟨rfl, hd⟩; have HB := (show Below w.heap.size w w1 from (below_box _ _).trans (hd.mono (by simp))); obtain ⟨hc, hf⟩ := bcell hd; have hz : w.heap.size < w1.heap.size := Nat.lt_of_lt_of_le (by simp) hd.size; have hn1 : ¬ (w.heap.size = w1.heap.size) := (by omega); have hz1 : w.heap.size < w1.heap.size + 1 := (by omega); have hz2 : w.heap.size < w1.heap.size + 1 + 1 := (by omega); have hz3 : w.heap.size < w1.heap.size + 1 + 1 + 1 := (by omega); have hz4 : w.heap.size < w1.heap.size + 1 + 1 + 1 + 1 := (by omega); have hn2 : ¬ (w.heap.size = w1.heap.size + 1) := (by omega); have hn3 : ¬ (w.heap.size = w1.heap.size + 1 + 1) := (by omega); have hn4 : ¬ (w.heap.size = w1.heap.size + 1 + 1 + 1) := (by omega); clear hd)
                  | (go_at_call 54; (with_reducible refine (within64_two _ _ _ _ _ _ _ (by simp)).mono ?_); rintro e w' ⟨rfl, rfl⟩)
                  | (go_at_call 54; (with_reducible refine (within64_one _ _ _ _ _ _ (by simp)).mono ?_); rintro e w' ⟨rfl, rfl⟩))
            go_ret
            exact ⟨ret_bool HE.out.symm, (by repeat (first | (with_reducible exact HB) | (with_reducible refine below_drewN' ?_ _) | (with_reducible refine Below.alloc ?_ (by first | omega | (simp <;> omega)) _)))⟩
        · have jl := inB_false hl
          have HE := Lib.hid (show awOk s f t l se fr sh = false by simp [awOk, jl])
          go_enter Try.func78, Try.ntmps78
          go_wp2_with (first
                | (go_at_call 80; (with_reducible refine (iIsName_any s _ hs).mono ?_); rintro e w1 ⟨rfl, hd⟩; have HB := (show Below w.heap.size w w1 from (below_box _ _).trans (hd.mono (by simp))); obtain ⟨hc, hf⟩ := bcell hd; have hz : w.heap.size < w1.heap.size := Nat.lt_of_lt_of_le (by simp) hd.size; have hn1 : ¬ (w.heap.size = w1.heap.size) := (by omega); have hz1 : w.heap.size < w1.heap.size + 1 := (by omega); have hz2 : w.heap.size < w1.heap.size + 1 + 1 := (by omega); have hz3 : w.heap.size < w1.heap.size + 1 + 1 + 1 := (by omega); have hz4 : w.heap.size < w1.heap.size + 1 + 1 + 1 + 1 := (by omega); have hn2 : ¬ (w.heap.size = w1.heap.size + 1) := (by omega); have hn3 : ¬ (w.heap.size = w1.heap.size + 1 + 1) := (by omega); have hn4 : ¬ (w.heap.size = w1.heap.size + 1 + 1 + 1) := (by omega); clear hd)
                | (go_at_call 54; (with_reducible refine (within64_two _ _ _ _ _ _ _ (by simp)).mono ?_); rintro e w' ⟨rfl, rfl⟩)
                | (go_at_call 54; (with_reducible refine (within64_one _ _ _ _ _ _ (by simp)).mono ?_); rintro e w' ⟨rfl, rfl⟩))
          go_ret
          exact ⟨ret_bool HE.out.symm, (by repeat (first | (with_reducible exact HB) | (with_reducible refine below_drewN' ?_ _) | (with_reducible refine Below.alloc ?_ (by first | omega | (simp <;> omega)) _)))⟩
      · have ja : allR 0 15 [f, t] = false := allR_not (by simpa using hft)
        have HE := Lib.hid (show awOk s f t l se fr sh = false from Bool.eq_false_iff.2 fun h => hft (awOk_bd h).2.1)
        clear hft
        go_enter Try.func78, Try.ntmps78
        go_wp2_with (first
              | (go_at_call 80; (with_reducible refine (iIsName_any s _ hs).mono ?_); rintro e w1 ⟨rfl, hd⟩; have HB := (show Below w.heap.size w w1 from (below_box _ _).trans (hd.mono (by simp))); obtain ⟨hc, hf⟩ := bcell hd; have hz : w.heap.size < w1.heap.size := Nat.lt_of_lt_of_le (by simp) hd.size; have hn1 : ¬ (w.heap.size = w1.heap.size) := (by omega); have hz1 : w.heap.size < w1.heap.size + 1 := (by omega); have hz2 : w.heap.size < w1.heap.size + 1 + 1 := (by omega); have hz3 : w.heap.size < w1.heap.size + 1 + 1 + 1 := (by omega); have hz4 : w.heap.size < w1.heap.size + 1 + 1 + 1 + 1 := (by omega); have hn2 : ¬ (w.heap.size = w1.heap.size + 1) := (by omega); have hn3 : ¬ (w.heap.size = w1.heap.size + 1 + 1) := (by omega); have hn4 : ¬ (w.heap.size = w1.heap.size + 1 + 1 + 1) := (by omega); clear hd)
              | (go_at_call 54; (with_reducible refine (within64_two _ _ _ _ _ _ _ (by simp)).mono ?_); rintro e w' ⟨rfl, rfl⟩)
              | (go_at_call 54; (with_reducible refine (within64_one _ _ _ _ _ _ (by simp)).mono ?_); rintro e w' ⟨rfl, rfl⟩))
        go_ret
        exact ⟨ret_bool HE.out.symm, (by repeat (first | (with_reducible exact HB) | (with_reducible refine below_drewN' ?_ _) | (with_reducible refine Below.alloc ?_ (by first | omega | (simp <;> omega)) _)))⟩
end Go.Proofs.Ythbofhlfggkolaa
