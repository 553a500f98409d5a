/-
  Contracts of chapter 3: airways: whether they are valid; the model's and the program's. Conditions: those that each theorem states.
-/
import Derived.Test.YtkbgfajkcdjjiaaDa
namespace Go.Proofs.Ytkbgfajkcdjjiaa
open Go.RowKit
set_option linter.unusedVariables false

/-- A valid airway. -/
def awOk (s : ByteArray) (f t l se fr sh : Int) : Bool := isNm s && !(decide (f = t)) && inB f 0 15 && inB t 0 15 && inB l 1 10000 && inB se 50 5000 && inB fr 1 1000 && inB sh 0 1000
theorem awOk_bd {s : ByteArray} {f t l se fr sh : Int} (h : awOk s f t l se fr sh = true) : (isNm s = true ∧ f ≠ t) ∧ ((0 ≤ f ∧ f ≤ 15) ∧ (0 ≤ t ∧ t ≤ 15)) ∧ (1 ≤ l ∧ l ≤ 10000) ∧ (50 ≤ se ∧ se ≤ 5000) ∧ (1 ≤ fr ∧ fr ≤ 1000) ∧ (0 ≤ sh ∧ sh ≤ 1000) := by
  simp only [awOk, Bool.and_eq_true, inB_iff, Bool.not_eq_true', decide_eq_false_iff_not] at h
  obtain ⟨⟨⟨⟨⟨⟨⟨a, b⟩, c⟩, d⟩, e⟩, f⟩, g⟩, i⟩ := h
  exact ⟨⟨a, b⟩, ⟨c, d⟩, e, f, g, i⟩
/-- The cells of an airway at the head of a block. -/
def AwAt (w : World) (b : Nat) (s : ByteArray) (f t l se fr sh : Int) : Prop :=
  (w.cell? ⟨b, 0, none⟩ = some (.string s) ∧ w.cell? ⟨b, 1, none⟩ = some (.int .i64 f) ∧ w.cell? ⟨b, 2, none⟩ = some (.int .i64 t) ∧ w.cell? ⟨b, 3, none⟩ = some (.int .i64 l)) ∧
  w.cell? ⟨b, 4, none⟩ = some (.int .i64 se) ∧ w.cell? ⟨b, 5, none⟩ = some (.int .i64 fr) ∧ w.cell? ⟨b, 6, none⟩ = some (.int .i64 sh)
theorem row_alloc1 (w : World) (o : Obj) (x : Int) (T : TypeId) : Row .i64 ((w.alloc o).alloc (.cells #[.int .i64 x] T)) (.slice (some ⟨w.heap.size + 1, 0, none⟩) 1 1) [x] := by
  have h := row_alloc .i64 (w.alloc o) [x] T 1
  rwa [show (w.alloc o).heap.size = w.heap.size + 1 by simp] at h
theorem quiet_lft {P : Program} {f : FuncId} {args : Array Value} {w : World} {n : Nat} {v : Value}
    (h : Calls P f args (w.drewN n) fun e w' => e = .returned v ∧ w.drewN n = w') : Calls P f args (w.drewN n) fun e w'' => e = .returned v ∧ ∃ m, w'' = w.drewN m :=
  h.mono fun _ _ ⟨he, hm⟩ => ⟨he, n, hm.symm⟩
theorem l03Ok_any (b : Nat) (s : ByteArray) (f t l se fr sh : Int) (w : World) (hs : s.size ≤ maxLen) (hc : AwAt w b s f t l se fr sh) :
    Calls Try.prog 59 #[.pointer (some ⟨b, 0, none⟩)] w fun e w' => e = .returned (.bool (awOk s f t l se fr sh)) ∧ ∃ n, w' = w.drewN n := by
  obtain ⟨⟨c0, c1, c2, c3⟩, c4, c5, c6⟩ := hc
  cases hn : isNm s
  · have HE := Lib.hid (show awOk s f t l se fr sh = false by simp [awOk, hn])
    go_enter Try.func59, Try.ntmps59
    go_wp2
    go_quiet ((first | (go_at_call 88; exact quiet_lft (l01Name_any s _ hs)) | (go_at_call 83; exact quiet_lft (l00In_any _ _ _ _))))
    go_wp2_with (first
          | (go_at_call 88; refine (l01Name_any s _ hs).mono ?_; rintro e w' ⟨rfl, rfl⟩)
          | (go_at_call 83; refine (l00In_any _ _ _ _).mono ?_; rintro e w' ⟨rfl, rfl⟩))
    go_ret
    exact ⟨ret_bool HE.out.symm, _, rfl⟩
  · by_cases hf : 0 ≤ f ∧ f ≤ 15
    · have jf := inB_true hf.1 hf.2
      by_cases ht : 0 ≤ t ∧ t ≤ 15
      · have jt := inB_true ht.1 ht.2
        by_cases hne : f = t
        · subst hne
          have HE := Lib.hid (show awOk s f f l se fr sh = false by simp [awOk])
          go_enter Try.func59, Try.ntmps59
          go_wp2
          go_quiet ((first | (go_at_call 88; exact quiet_lft (l01Name_any s _ hs)) | (go_at_call 83; exact quiet_lft (l00In_any _ _ _ _))))
          go_wp2_with (first
                | (go_at_call 88; refine (l01Name_any s _ hs).mono ?_; rintro e w' ⟨rfl, rfl⟩)
                | (go_at_call 83; refine (l00In_any _ _ _ _).mono ?_; rintro e w' ⟨rfl, rfl⟩))
          go_ret
          exact ⟨ret_bool HE.out.symm, _, rfl⟩
        · have hne2 : (f != t) = true := bne_iff_ne.2 hne
          by_cases hl : 1 ≤ l ∧ l ≤ 10000
          · have jl := inB_true hl.1 hl.2
            by_cases hse : 50 ≤ se ∧ se ≤ 5000
            · have jse := inB_true hse.1 hse.2
              by_cases hfr : 1 ≤ fr ∧ fr ≤ 1000
              · have jfr := inB_true hfr.1 hfr.2
                by_cases hsh : 0 ≤ sh ∧ sh ≤ 1000
                · have jsh := inB_true hsh.1 hsh.2
                  have HE := Lib.hid (show awOk s f t l se fr sh = true by simp [awOk, hn, jf, jt, hne, jl, jse, jfr, jsh])
                  go_enter Try.func59, Try.ntmps59
                  go_wp2
                  go_quiet ((first | (go_at_call 88; exact quiet_lft (l01Name_any s _ hs)) | (go_at_call 83; exact quiet_lft (l00In_any _ _ _ _))))
                  go_wp2_with (first
                        | (go_at_call 88; refine (l01Name_any s _ hs).mono ?_; rintro e w' ⟨rfl, rfl⟩)
                        | (go_at_call 83; refine (l00In_any _ _ _ _).mono ?_; rintro e w' ⟨rfl, rfl⟩))
                  go_ret
                  exact ⟨ret_bool HE.out.symm, _, rfl⟩
                · have jsh := inB_false hsh
                  have HE := Lib.hid (show awOk s f t l se fr sh = false by simp [awOk, jsh])
                  go_enter Try.func59, Try.ntmps59
                  go_wp2
                  go_quiet ((first | (go_at_call 88; exact quiet_lft (l01Name_any s _ hs)) | (go_at_call 83; exact quiet_lft (l00In_any _ _ _ _))))
                  go_wp2_with (first
                        | (go_at_call 88; refine (l01Name_any s _ hs).mono ?_; rintro e w' ⟨rfl, rfl⟩)
                        | (go_at_call 83; refine (l00In_any _ _ _ _).mono ?_; rintro e w' ⟨rfl, rfl⟩))
                  go_ret
                  exact ⟨ret_bool HE.out.symm, _, rfl⟩
              · have jfr := inB_false hfr
                have HE := Lib.hid (show awOk s f t l se fr sh = false by simp [awOk, jfr])
                go_enter Try.func59, Try.ntmps59
                go_wp2
                go_quiet ((first | (go_at_call 88; exact quiet_lft (l01Name_any s _ hs)) | (go_at_call 83; exact quiet_lft (l00In_any _ _ _ _))))
                go_wp2_with (first
                      | (go_at_call 88; refine (l01Name_any s _ hs).mono ?_; rintro e w' ⟨rfl, rfl⟩)
                      | (go_at_call 83; refine (l00In_any _ _ _ _).mono ?_; rintro e w' ⟨rfl, rfl⟩))
                go_ret
                exact ⟨ret_bool HE.out.symm, _, rfl⟩
            · have jse := inB_false hse
              have HE := Lib.hid (show awOk s f t l se fr sh = false by simp [awOk, jse])
              go_enter Try.func59, Try.ntmps59
              go_wp2
              go_quiet ((first | (go_at_call 88; exact quiet_lft (l01Name_any s _ hs)) | (go_at_call 83; exact quiet_lft (l00In_any _ _ _ _))))
              go_wp2_with (first
                    | (go_at_call 88; refine (l01Name_any s _ hs).mono ?_; rintro e w' ⟨rfl, rfl⟩)
                    | (go_at_call 83; refine (l00In_any _ _ _ _).mono ?_; rintro e w' ⟨rfl, rfl⟩))
              go_ret
              exact ⟨ret_bool HE.out.symm, _, rfl⟩
          · have jl := inB_false hl
            have HE := Lib.hid (show awOk s f t l se fr sh = false by simp [awOk, jl])
            go_enter Try.func59, Try.ntmps59
            go_wp2
            go_quiet ((first | (go_at_call 88; exact quiet_lft (l01Name_any s _ hs)) | (go_at_call 83; exact quiet_lft (l00In_any _ _ _ _))))
            go_wp2_with (first
                  | (go_at_call 88; refine (l01Name_any s _ hs).mono ?_; rintro e w' ⟨rfl, rfl⟩)
                  | (go_at_call 83; refine (l00In_any _ _ _ _).mono ?_; rintro e w' ⟨rfl, rfl⟩))
            go_ret
            exact ⟨ret_bool HE.out.symm, _, rfl⟩
      · have jt := inB_false ht
        have HE := Lib.hid (show awOk s f t l se fr sh = false by simp [awOk, jt])
        go_enter Try.func59, Try.ntmps59
        go_wp2
        go_quiet ((first | (go_at_call 88; exact quiet_lft (l01Name_any s _ hs)) | (go_at_call 83; exact quiet_lft (l00In_any _ _ _ _))))
        go_wp2_with (first
              | (go_at_call 88; refine (l01Name_any s _ hs).mono ?_; rintro e w' ⟨rfl, rfl⟩)
              | (go_at_call 83; refine (l00In_any _ _ _ _).mono ?_; rintro e w' ⟨rfl, rfl⟩))
        go_ret
        exact ⟨ret_bool HE.out.symm, _, rfl⟩
    · have jf := inB_false hf
      have HE := Lib.hid (show awOk s f t l se fr sh = false by simp [awOk, jf])
      go_enter Try.func59, Try.ntmps59
      go_wp2
      go_quiet ((first | (go_at_call 88; exact quiet_lft (l01Name_any s _ hs)) | (go_at_call 83; exact quiet_lft (l00In_any _ _ _ _))))
      go_wp2_with (first
            | (go_at_call 88; refine (l01Name_any s _ hs).mono ?_; rintro e w' ⟨rfl, rfl⟩)
            | (go_at_call 83; refine (l00In_any _ _ _ _).mono ?_; rintro e w' ⟨rfl, rfl⟩))
      go_ret
      exact ⟨ret_bool HE.out.symm, _, rfl⟩
set_option maxHeartbeats 1000000 in
theorem iValidAirway_ex (s : ByteArray) (f t l se fr sh : Int) (w : World) (hs : s.size ≤ maxLen) :
    Calls Try.prog 53 #[.agg #[.string s, .int .i64 f, .int .i64 t, .int .i64 l, .int .i64 se, .int .i64 fr, .int .i64 sh]] w fun e w' => e = .returned (.bool (awOk s f t l se fr sh)) ∧ (w.alloc (.cells #[.string s, .int .i64 f, .int .i64 t, .int .i64 l, .int .i64 se, .int .i64 fr, .int .i64 sh] 42) = w' ∨ (w.alloc (.cells #[.string s, .int .i64 f, .int .i64 t, .int .i64 l, .int .i64 se, .int .i64 fr, .int .i64 sh] 42)).alloc (.cells #[.int .i64 t] 2) = w') := by
  cases hn : isNm s
  · have HE := Lib.hid (show awOk s f t l se fr sh = false by simp [awOk, hn])
    go_enter Try.func53, Try.ntmps53
    go_wp2_with (first
          | (go_at_call 86; refine (iIsName_any s _ hs).mono ?_; rintro e w' ⟨rfl, rfl⟩)
          | (go_at_call 52; (with_reducible refine (within64_one _ _ _ _).mono ?_); rintro e w' ⟨rfl, rfl⟩)
          | (go_at_call 52; refine (within64_any _ _ f _ [t] _ (row_alloc1 w _ t 2) (by simp)).mono ?_; rintro e w' ⟨rfl, rfl⟩))
    go_ret
    exact ⟨ret_bool HE.out.symm, by first | exact Or.inl rfl | exact Or.inr rfl⟩
  · by_cases hne : f = t
    · subst hne
      have HE := Lib.hid (show awOk s f f l se fr sh = false by simp [awOk])
      go_enter Try.func53, Try.ntmps53
      go_wp2_with (first
            | (go_at_call 86; refine (iIsName_any s _ hs).mono ?_; rintro e w' ⟨rfl, rfl⟩)
            | (go_at_call 52; (with_reducible refine (within64_one _ _ _ _).mono ?_); rintro e w' ⟨rfl, rfl⟩)
            | (go_at_call 52; refine (within64_any _ _ f _ [t] _ (row_alloc1 w _ t 2) (by simp)).mono ?_; rintro e w' ⟨rfl, rfl⟩))
      go_ret
      exact ⟨ret_bool HE.out.symm, by first | exact Or.inl rfl | exact Or.inr rfl⟩
    · have hne2 : (f != t) = true := bne_iff_ne.2 hne
      by_cases hft : (0 ≤ f ∧ f ≤ 15) ∧ (0 ≤ t ∧ t ≤ 15)
      · have ja : allIn 0 15 f [t] = true := by rw [allIn_iff]; simpa using hft
        have jf := inB_true hft.1.1 hft.1.2
        have jt := inB_true hft.2.1 hft.2.2
        by_cases hl : 1 ≤ l ∧ l ≤ 10000
        · have jl := inB_true hl.1 hl.2
          by_cases hse : 50 ≤ se ∧ se ≤ 5000
          · have jse := inB_true hse.1 hse.2
            by_cases hfr : 1 ≤ fr ∧ fr ≤ 1000
            · have jfr := inB_true hfr.1 hfr.2
              by_cases hsh : 0 ≤ sh ∧ sh ≤ 1000
              · have jsh := inB_true hsh.1 hsh.2
                have HE := Lib.hid (show awOk s f t l se fr sh = true by simp [awOk, hn, hne, jf, jt, jl, jse, jfr, jsh])
                go_enter Try.func53, Try.ntmps53
                go_wp2_with (first
                      | (go_at_call 86; refine (iIsName_any s _ hs).mono ?_; rintro e w' ⟨rfl, rfl⟩)
                      | (go_at_call 52; (with_reducible refine (within64_one _ _ _ _).mono ?_); rintro e w' ⟨rfl, rfl⟩)
                      | (go_at_call 52; refine (within64_any _ _ f _ [t] _ (row_alloc1 w _ t 2) (by simp)).mono ?_; rintro e w' ⟨rfl, rfl⟩))
                go_ret
                exact ⟨ret_bool HE.out.symm, by first | exact Or.inl rfl | exact Or.inr rfl⟩
              · have jsh := inB_false hsh
                have HE := Lib.hid (show awOk s f t l se fr sh = false by simp [awOk, jsh])
                go_enter Try.func53, Try.ntmps53
                go_wp2_with (first
                      | (go_at_call 86; refine (iIsName_any s _ hs).mono ?_; rintro e w' ⟨rfl, rfl⟩)
                      | (go_at_call 52; (with_reducible refine (within64_one _ _ _ _).mono ?_); rintro e w' ⟨rfl, rfl⟩)
                      | (go_at_call 52; refine (within64_any _ _ f _ [t] _ (row_alloc1 w _ t 2) (by simp)).mono ?_; rintro e w' ⟨rfl, rfl⟩))
                go_ret
                exact ⟨ret_bool HE.out.symm, by first | exact Or.inl rfl | exact Or.inr rfl⟩
            · have jfr := inB_false hfr
              have HE := Lib.hid (show awOk s f t l se fr sh = false by simp [awOk, jfr])
              go_enter Try.func53, Try.ntmps53
              go_wp2_with (first
                    | (go_at_call 86; refine (iIsName_any s _ hs).mono ?_; rintro e w' ⟨rfl, rfl⟩)
                    | (go_at_call 52; (with_reducible refine (within64_one _ _ _ _).mono ?_); rintro e w' ⟨rfl, rfl⟩)
                    | (go_at_call 52; refine (within64_any _ _ f _ [t] _ (row_alloc1 w _ t 2) (by simp)).mono ?_; rintro e w' ⟨rfl, rfl⟩))
              go_ret
              exact ⟨ret_bool HE.out.symm, by first | exact Or.inl rfl | exact Or.inr rfl⟩
          · have jse := inB_false hse
            have HE := Lib.hid (show awOk s f t l se fr sh = false by simp [awOk, jse])
            go_enter Try.func53, Try.ntmps53
            go_wp2_with (first
                  | (go_at_call 86; refine (iIsName_any s _ hs).mono ?_; rintro e w' ⟨rfl, rfl⟩)
                  | (go_at_call 52; (with_reducible refine (within64_one _ _ _ _).mono ?_); rintro e w' ⟨rfl, rfl⟩)
                  | (go_at_call 52; refine (within64_any _ _ f _ [t] _ (row_alloc1 w _ t 2) (by simp)).mono ?_; rintro e w' ⟨rfl, rfl⟩))
            go_ret
            exact ⟨ret_bool HE.out.symm, by first | exact Or.inl rfl | exact Or.inr rfl⟩
        · have jl := inB_false hl
          have HE := Lib.hid (show awOk s f t l se fr sh = false by simp [awOk, jl])
          go_enter Try.func53, Try.ntmps53
          go_wp2_with (first
                | (go_at_call 86; refine (iIsName_any s _ hs).mono ?_; rintro e w' ⟨rfl, rfl⟩)
                | (go_at_call 52; (with_reducible refine (within64_one _ _ _ _).mono ?_); rintro e w' ⟨rfl, rfl⟩)
                | (go_at_call 52; refine (within64_any _ _ f _ [t] _ (row_alloc1 w _ t 2) (by simp)).mono ?_; rintro e w' ⟨rfl, rfl⟩))
          go_ret
          exact ⟨ret_bool HE.out.symm, by first | exact Or.inl rfl | exact Or.inr rfl⟩
      · have ja : allIn 0 15 f [t] = false := by rw [← Bool.not_eq_true, allIn_iff]; simpa using hft
        have HE := Lib.hid (show awOk s f t l se fr sh = false from Bool.eq_false_iff.2 fun h => hft (awOk_bd h).2.1)
        clear hft
        go_enter Try.func53, Try.ntmps53
        go_wp2_with (first
              | (go_at_call 86; refine (iIsName_any s _ hs).mono ?_; rintro e w' ⟨rfl, rfl⟩)
              | (go_at_call 52; (with_reducible refine (within64_one _ _ _ _).mono ?_); rintro e w' ⟨rfl, rfl⟩)
              | (go_at_call 52; refine (within64_any _ _ f _ [t] _ (row_alloc1 w _ t 2) (by simp)).mono ?_; rintro e w' ⟨rfl, rfl⟩))
        go_ret
        exact ⟨ret_bool HE.out.symm, by first | exact Or.inl rfl | exact Or.inr rfl⟩
theorem iValidAirway_any (s : ByteArray) (f t l se fr sh : Int) (w : World) (hs : s.size ≤ maxLen) :
    Calls Try.prog 53 #[.agg #[.string s, .int .i64 f, .int .i64 t, .int .i64 l, .int .i64 se, .int .i64 fr, .int .i64 sh]] w fun e w' => e = .returned (.bool (awOk s f t l se fr sh)) ∧ Below w.heap.size w w' :=
  (iValidAirway_ex s f t l se fr sh w hs).mono fun _ _ ⟨h, e⟩ => ⟨h, by
    rcases e with rfl | rfl
    · exact below_one _ _
    · exact (below_one _ _).alloc (by simp) _⟩
end Go.Proofs.Ytkbgfajkcdjjiaa
