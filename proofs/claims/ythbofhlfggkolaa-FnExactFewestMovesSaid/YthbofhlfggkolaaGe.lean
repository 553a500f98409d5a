/-
  Contracts of chapter 4: whether a mine is valid; the model's and the program's. Conditions: those that each theorem states.
-/
import Derived.Test.YthbofhlfggkolaaGd
namespace Go.Proofs.Ythbofhlfggkolaa
open Go.RowKit
set_option linter.unusedVariables false
set_option linter.unusedSimpArgs false

/-- The cells of an airway from an offset on. -/
def AwAtO (w : World) (b o : Nat) (s : ByteArray) (f t l se fr sh : Int) : Prop :=
  (w.cell? ⟨b, o, none⟩ = some (.string s) ∧ w.cell? ⟨b, o + 1, none⟩ = some (.int .i64 f) ∧ w.cell? ⟨b, o + 2, none⟩ = some (.int .i64 t) ∧ w.cell? ⟨b, o + 3, none⟩ = some (.int .i64 l)) ∧
  w.cell? ⟨b, o + 4, none⟩ = some (.int .i64 se) ∧ w.cell? ⟨b, o + 5, none⟩ = some (.int .i64 fr) ∧ w.cell? ⟨b, o + 6, none⟩ = some (.int .i64 sh)
theorem AwAtO.of {w : World} {b o : Nat} {a : Aw} (h : w.rangeAt b o a.cells) : AwAtO w b o a.s a.f a.t a.l a.se a.fr a.sh := lay_row h
theorem l03OkO_any (b o : Nat) (s : ByteArray) (f t l se fr sh : Int) (w : World) (hs : s.size ≤ maxLen) (hc : AwAtO w b o s f t l se fr sh) :
    Calls Try.prog 74 #[.pointer (some ⟨b, o, none⟩)] w fun e w' => e = .returned (.bool (awOk s f t l se fr sh)) ∧ ∃ n, w' = w.drewN n := by
  obtain ⟨⟨c0, c1, c2, c3⟩, c4, c5, c6⟩ := hc
  cases hn : isNm s
  · have HE := Lib.hid (show awOk s f t l se fr sh = false by simp [awOk, hn])
    go_enter Try.func74, Try.ntmps74
    go_wp2
    go_quiet ((first | (go_at_call 94; exact quiet_lft (l01Name_any s _ hs)) | (go_at_call 48; exact quiet_lft (l00In_any _ _ _ _))))
    go_wp2_with (first
          | (go_at_call 94; refine (l01Name_any s _ hs).mono ?_; rintro e w' ⟨rfl, rfl⟩)
          | (go_at_call 48; refine (l00In_any _ _ _ _).mono ?_; rintro e w' ⟨rfl, rfl⟩))
    go_ret
    exact ⟨ret_bool HE.out.symm, _, rfl⟩
  · by_cases hf : 0 ≤ f ∧ f ≤ 15
    · have jf := inB_true hf.1 hf.2
      by_cases ht : 0 ≤ t ∧ t ≤ 15
      · have jt := inB_true ht.1 ht.2
        by_cases hne : f = t
        · subst hne
          have HE := Lib.hid (show awOk s f f l se fr sh = false by simp [awOk])
          go_enter Try.func74, Try.ntmps74
          go_wp2
          go_quiet ((first | (go_at_call 94; exact quiet_lft (l01Name_any s _ hs)) | (go_at_call 48; exact quiet_lft (l00In_any _ _ _ _))))
          go_wp2_with (first
                | (go_at_call 94; refine (l01Name_any s _ hs).mono ?_; rintro e w' ⟨rfl, rfl⟩)
                | (go_at_call 48; refine (l00In_any _ _ _ _).mono ?_; rintro e w' ⟨rfl, rfl⟩))
          go_ret
          exact ⟨ret_bool HE.out.symm, _, rfl⟩
        · have hne2 : (f != t) = true := bne_iff_ne.2 hne
          by_cases hl : 1 ≤ l ∧ l ≤ 10000
          · have jl := inB_true hl.1 hl.2
            by_cases hse : 50 ≤ se ∧ se ≤ 5000
            · have jse := inB_true hse.1 hse.2
              by_cases hfr : 1 ≤ fr ∧ fr ≤ 1000
              · have jfr := inB_true hfr.1 hfr.2
                by_cases hsh : 0 ≤ sh ∧ sh ≤ 1000
                · have jsh := inB_true hsh.1 hsh.2
                  have HE := Lib.hid (show awOk s f t l se fr sh = true by simp [awOk, hn, jf, jt, hne, jl, jse, jfr, jsh])
                  go_enter Try.func74, Try.ntmps74
                  go_wp2
                  go_quiet ((first | (go_at_call 94; exact quiet_lft (l01Name_any s _ hs)) | (go_at_call 48; exact quiet_lft (l00In_any _ _ _ _))))
                  go_wp2_with (first
                        | (go_at_call 94; refine (l01Name_any s _ hs).mono ?_; rintro e w' ⟨rfl, rfl⟩)
                        | (go_at_call 48; refine (l00In_any _ _ _ _).mono ?_; rintro e w' ⟨rfl, rfl⟩))
                  go_ret
                  exact ⟨ret_bool HE.out.symm, _, rfl⟩
                · have jsh := inB_false hsh
                  have HE := Lib.hid (show awOk s f t l se fr sh = false by simp [awOk, jsh])
                  go_enter Try.func74, Try.ntmps74
                  go_wp2
                  go_quiet ((first | (go_at_call 94; exact quiet_lft (l01Name_any s _ hs)) | (go_at_call 48; exact quiet_lft (l00In_any _ _ _ _))))
                  go_wp2_with (first
                        | (go_at_call 94; refine (l01Name_any s _ hs).mono ?_; rintro e w' ⟨rfl, rfl⟩)
                        | (go_at_call 48; refine (l00In_any _ _ _ _).mono ?_; rintro e w' ⟨rfl, rfl⟩))
                  go_ret
                  exact ⟨ret_bool HE.out.symm, _, rfl⟩
              · have jfr := inB_false hfr
                have HE := Lib.hid (show awOk s f t l se fr sh = false by simp [awOk, jfr])
                go_enter Try.func74, Try.ntmps74
                go_wp2
                go_quiet ((first | (go_at_call 94; exact quiet_lft (l01Name_any s _ hs)) | (go_at_call 48; exact quiet_lft (l00In_any _ _ _ _))))
                go_wp2_with (first
                      | (go_at_call 94; refine (l01Name_any s _ hs).mono ?_; rintro e w' ⟨rfl, rfl⟩)
                      | (go_at_call 48; refine (l00In_any _ _ _ _).mono ?_; rintro e w' ⟨rfl, rfl⟩))
                go_ret
                exact ⟨ret_bool HE.out.symm, _, rfl⟩
            · have jse := inB_false hse
              have HE := Lib.hid (show awOk s f t l se fr sh = false by simp [awOk, jse])
              go_enter Try.func74, Try.ntmps74
              go_wp2
              go_quiet ((first | (go_at_call 94; exact quiet_lft (l01Name_any s _ hs)) | (go_at_call 48; exact quiet_lft (l00In_any _ _ _ _))))
              go_wp2_with (first
                    | (go_at_call 94; refine (l01Name_any s _ hs).mono ?_; rintro e w' ⟨rfl, rfl⟩)
                    | (go_at_call 48; refine (l00In_any _ _ _ _).mono ?_; rintro e w' ⟨rfl, rfl⟩))
              go_ret
              exact ⟨ret_bool HE.out.symm, _, rfl⟩
          · have jl := inB_false hl
            have HE := Lib.hid (show awOk s f t l se fr sh = false by simp [awOk, jl])
            go_enter Try.func74, Try.ntmps74
            go_wp2
            go_quiet ((first | (go_at_call 94; exact quiet_lft (l01Name_any s _ hs)) | (go_at_call 48; exact quiet_lft (l00In_any _ _ _ _))))
            go_wp2_with (first
                  | (go_at_call 94; refine (l01Name_any s _ hs).mono ?_; rintro e w' ⟨rfl, rfl⟩)
                  | (go_at_call 48; refine (l00In_any _ _ _ _).mono ?_; rintro e w' ⟨rfl, rfl⟩))
            go_ret
            exact ⟨ret_bool HE.out.symm, _, rfl⟩
      · have jt := inB_false ht
        have HE := Lib.hid (show awOk s f t l se fr sh = false by simp [awOk, jt])
        go_enter Try.func74, Try.ntmps74
        go_wp2
        go_quiet ((first | (go_at_call 94; exact quiet_lft (l01Name_any s _ hs)) | (go_at_call 48; exact quiet_lft (l00In_any _ _ _ _))))
        go_wp2_with (first
              | (go_at_call 94; refine (l01Name_any s _ hs).mono ?_; rintro e w' ⟨rfl, rfl⟩)
              | (go_at_call 48; refine (l00In_any _ _ _ _).mono ?_; rintro e w' ⟨rfl, rfl⟩))
        go_ret
        exact ⟨ret_bool HE.out.symm, _, rfl⟩
    · have jf := inB_false hf
      have HE := Lib.hid (show awOk s f t l se fr sh = false by simp [awOk, jf])
      go_enter Try.func74, Try.ntmps74
      go_wp2
      go_quiet ((first | (go_at_call 94; exact quiet_lft (l01Name_any s _ hs)) | (go_at_call 48; exact quiet_lft (l00In_any _ _ _ _))))
      go_wp2_with (first
            | (go_at_call 94; refine (l01Name_any s _ hs).mono ?_; rintro e w' ⟨rfl, rfl⟩)
            | (go_at_call 48; refine (l00In_any _ _ _ _).mono ?_; rintro e w' ⟨rfl, rfl⟩))
      go_ret
      exact ⟨ret_bool HE.out.symm, _, rfl⟩
/-- Whether the airway k of a mine may follow those before it. -/
def stepOk (J : Int) (xs : List Aw) (k : Nat) : Bool :=
  (xs.getD k Aw.none).ok && inB (xs.getD k Aw.none).f 0 (J - 1) && inB (xs.getD k Aw.none).t 0 (J - 1) && (k == 0 || Op.bytesLess (xs.getD (k - 1) Aw.none).s.toList (xs.getD k Aw.none).s.toList)
def upTo (J : Int) (xs : List Aw) : Nat → Bool
  | 0 => true
  | k + 1 => upTo J xs k && stepOk J xs k
theorem upTo_false {J : Int} {xs : List Aw} {k : Nat} (h : stepOk J xs k = false) : ∀ n, k < n → upTo J xs n = false
  | n + 1, hk => by
    rw [upTo]
    by_cases e : k = n
    · subst e; rw [h, Bool.and_false]
    · rw [upTo_false h n (by omega), Bool.false_and]
theorem upTo_all {J : Int} {xs : List Aw} : ∀ n, upTo J xs n = true → ∀ k, k < n → stepOk J xs k = true
  | n + 1, h, k, hk => by
    rw [upTo, Bool.and_eq_true] at h
    by_cases e : k = n
    · subst e; exact h.2
    · exact upTo_all n h.1 k (by omega)
/-- Whether a mine is valid. -/
def mineOk (J : Int) (xs : List Aw) : Bool := inB J 1 16 && upTo J xs xs.length && decide (xs.length ≤ 24)
theorem mineOk_iff {J : Int} {xs : List Aw} : mineOk J xs = true ↔ (1 ≤ J ∧ J ≤ 16) ∧ upTo J xs xs.length = true ∧ xs.length ≤ 24 := by
  simp only [mineOk, Bool.and_eq_true, inB_iff, decide_eq_true_eq, and_assoc]
theorem mineOk_false {J : Int} {xs : List Aw} {k : Nat} (hk : k < xs.length) (h : stepOk J xs k = false) : mineOk J xs = false := by
  unfold mineOk; rw [upTo_false h _ hk, Bool.and_false, Bool.false_and]
theorem less_total : ∀ x y : List UInt8, (!Op.bytesLess x y) = (Op.bytesLess y x || y == x)
  | [], [] => rfl
  | [], b :: y => rfl
  | a :: x, [] => rfl
  | a :: x, b :: y => by
    have ih := less_total x y
    have e : (a :: x == b :: y) = (a == b && x == y) := rfl
    have e' : (b :: y == a :: x) = (b == a && y == x) := rfl
    rw [e']
    simp only [Op.bytesLess]
    by_cases h : a = b
    · subst h
      have hi : ¬ a < a := by simp
      simp only [hi, decide_false, beq_self_eq_true, Bool.true_and, Bool.false_or]
      exact ih
    · have h1 : (a == b) = false := beq_false_of_ne h
      have h2 : (b == a) = false := beq_false_of_ne (Ne.symm h)
      rw [h1, h2, Bool.false_and, Bool.or_false, Bool.false_and, Bool.or_false, Bool.false_and, Bool.or_false]
      rcases UInt8.lt_or_lt_of_ne h with g | g
      · have g' : ¬ b < a := fun q => UInt8.lt_irrefl _ (UInt8.lt_trans g q)
        simp [g, g']
      · have g' : ¬ a < b := fun q => UInt8.lt_irrefl _ (UInt8.lt_trans g q)
        simp [g, g']
theorem less_irr : ∀ x : List UInt8, Op.bytesLess x x = false
  | [] => rfl
  | a :: x => by
    simp only [Op.bytesLess, less_irr x]
    simp
theorem getD_of_lt {xs : List Aw} {k : Nat} (h : k < xs.length) : xs.getD k Aw.none = xs[k] := by simp [List.getD, h]
theorem l04Junction_any (b : Nat) (J j : Int) (w : World) (hJ : w.cell? ⟨b, 0, none⟩ = some (.int .i64 J)) (h1 : 1 ≤ J ∧ J ≤ 16) :
    Calls Try.prog 75 #[.pointer (some ⟨b, 0, none⟩), .int .i64 j] w fun e w' => e = .returned (.bool (inB j 0 (J - 1))) ∧ w = w' := by
  go_enter Try.func75, Try.ntmps75
  go_wp2_with (go_at_call 48; refine (l00In_any _ _ _ _).mono ?_; rintro e w' ⟨rfl, rfl⟩)
  go_ret
  exact ⟨rfl, rfl⟩
theorem qdr {P : Program} {f : FuncId} {args : Array Value} {w : World} {a : Nat} {v : Value}
    (h : Calls P f args (w.drewN a) fun e w' => e = .returned v ∧ ∃ m, w' = (w.drewN a).drewN m) :
    Calls P f args (w.drewN a) fun e w'' => e = .returned v ∧ ∃ m, w'' = w.drewN m :=
  h.mono fun _ _ ⟨he, m, hm⟩ => ⟨he, a + m, by rw [hm, World.drewN_drewN]⟩
set_option maxHeartbeats 1000000 in
set_option maxRecDepth 100000 in
theorem l04Ok_any (b : Nat) (J : Int) (A : Option Addr) (cap : Nat) (xs : List Aw) (w : World) (hJ : w.cell? ⟨b, 0, none⟩ = some (.int .i64 J)) (hA : w.cell? ⟨b, 1, none⟩ = some (.slice A xs.length cap)) (hr : AwR w A xs) (hs : ∀ a ∈ xs, a.s.size ≤ maxLen) (hl : xs.length ≤ 1048576) :
    Calls Try.prog 40 #[.pointer (some ⟨b, 0, none⟩)] w fun e w' => e = .returned (.bool (mineOk J xs)) ∧ ∃ n, w' = w.drewN n := by
  by_cases h1 : 1 ≤ J ∧ J ≤ 16
  · have i1 := inB_true h1.1 h1.2
    have HR := Lib.hid hr
    have HS := Lib.hid hs
    have HM := Lib.hid (show mineOk J xs = (upTo J xs xs.length && decide (xs.length ≤ 24)) by unfold mineOk; rw [i1, Bool.true_and])
    clear hr hs
    go_enter Try.func40, Try.ntmps40
    go_wp2_with (go_at_call 48; refine (l00In_any _ _ _ _).mono ?_; rintro e w' ⟨rfl, rfl⟩)
    go_loopw [3] (fun i wr => ∃ k n : Nat, k ≤ xs.length ∧ i = .int .i64 k ∧ wr = w.drewN n ∧ Hid (upTo J xs k = true)) (fun i wr => xs.length - (intOf i).toNat)
    case atStart => exact ⟨0, 0, by omega, rfl, rfl, Lib.hid rfl⟩
    case round =>
      obtain ⟨k, n, hk, rfl, hw, HU⟩ := hrel
      have hJ' : wr.cell? ⟨b, 0, none⟩ = some (.int .i64 J) := by rw [hw]; exact hJ
      have hA' : wr.cell? ⟨b, 1, none⟩ = some (.slice A xs.length cap) := by rw [hw]; exact hA
      have HW := Lib.hid hw
      have HRw := Lib.hid (show AwR wr A xs by rw [hw]; exact HR.out)
      clear hw hJ hA
      by_cases hlt : k < xs.length
      · obtain ⟨b', off, rfl, hrg⟩ := HRw.out k hlt
        have HC := Lib.hid (AwAtO.of hrg)
        obtain ⟨⟨c0, c1, c2, c3⟩, c4, c5, c6⟩ := lay_row hrg
        have hss := HS.out xs[k] (List.getElem_mem hlt)
        have HX := Lib.hid (getD_of_lt hlt)
        generalize xs[k] = x at *
        obtain ⟨s, f, t, l, se, fr, sh⟩ := x
        dsimp only at c0 c1 c2 c3 c4 c5 c6 hss HC
        clear hrg
        cases hok : awOk s f t l se fr sh
        · have HE := Lib.hid (show mineOk J xs = false from mineOk_false hlt (by unfold stepOk; rw [HX.out]; simp [Aw.ok, hok]))
          go_wp2
          go_quiet ((first | (go_at_call 74; exact qdr (l03OkO_any b' (off + k * 7) s f t l se fr sh _ hss HC.out)) | (go_at_call 75; exact quiet_lft (l04Junction_any b J _ _ hJ' h1))))
          go_wp2
          go_ret
          have hw := HW.out
          exact ⟨ret_bool HE.out.symm, _, by rw [hw, World.drewN_drewN]⟩
        · cases hjf : inB f 0 (J - 1)
          · have HE := Lib.hid (show mineOk J xs = false from mineOk_false hlt (by unfold stepOk; rw [HX.out]; simp [Aw.ok, hjf]))
            go_wp2
            go_quiet ((first | (go_at_call 74; exact qdr (l03OkO_any b' (off + k * 7) s f t l se fr sh _ hss HC.out)) | (go_at_call 75; exact quiet_lft (l04Junction_any b J _ _ hJ' h1))))
            go_wp2
            go_ret
            have hw := HW.out
            exact ⟨ret_bool HE.out.symm, _, by rw [hw, World.drewN_drewN]⟩
          · cases hjt : inB t 0 (J - 1)
            · have HE := Lib.hid (show mineOk J xs = false from mineOk_false hlt (by unfold stepOk; rw [HX.out]; simp [Aw.ok, hjt]))
              go_wp2
              go_quiet ((first | (go_at_call 74; exact qdr (l03OkO_any b' (off + k * 7) s f t l se fr sh _ hss HC.out)) | (go_at_call 75; exact quiet_lft (l04Junction_any b J _ _ hJ' h1))))
              go_wp2
              go_ret
              have hw := HW.out
              exact ⟨ret_bool HE.out.symm, _, by rw [hw, World.drewN_drewN]⟩
            · cases k with
              | zero =>
                have HE := Lib.hid (show upTo J xs (0 + 1) = true by rw [upTo, HU.out, Bool.true_and]; unfold stepOk; rw [HX.out]; simp [Aw.ok, hok, hjf, hjt])
                go_wp2
                go_quiet ((first | (go_at_call 74; exact qdr (l03OkO_any b' (off + 0 * 7) s f t l se fr sh _ hss HC.out)) | (go_at_call 75; exact quiet_lft (l04Junction_any b J _ _ hJ' h1))))
                go_wp2
                go_roundw
                case rel => exact ⟨0 + 1, _, by omega, by go_num, (by have hw := HW.out; rw [hw, World.drewN_drewN]), HE⟩
                case measure => simp [intOf]; omega
              | succ k =>
                have hlk : k < xs.length := by omega
                obtain ⟨b2, off2, e2, hrg2⟩ := HRw.out k hlk
                injection e2 with e2
                injection e2 with e2 e3
                subst e2 e3
                have d0 := (lay_row hrg2).1.1
                have HX2 := Lib.hid (getD_of_lt hlk)
                generalize xs[k] = y at *
                obtain ⟨ps, pf, pt, pl, pse, pfr, psh⟩ := y
                dsimp only at d0
                clear hrg2
                have hk1 : (0 : Int) < ((k + 1 : Nat) : Int) := by omega
                cases hls : Op.bytesLess ps.toList s.toList
                · have HE := Lib.hid (show mineOk J xs = false from mineOk_false hlt (by unfold stepOk; rw [HX.out, Nat.add_sub_cancel, HX2.out]; simp [Aw.ok, hls]))
                  go_wp2
                  go_quiet ((first | (go_at_call 74; exact qdr (l03OkO_any b' (off + (k + 1) * 7) s f t l se fr sh _ hss HC.out)) | (go_at_call 75; exact quiet_lft (l04Junction_any b J _ _ hJ' h1))))
                  go_wp2
                  go_ret
                  have hw := HW.out
                  exact ⟨ret_bool HE.out.symm, _, by rw [hw, World.drewN_drewN]⟩
                · have HE := Lib.hid (show upTo J xs ((k + 1) + 1) = true by rw [upTo, HU.out, Bool.true_and]; unfold stepOk; rw [HX.out, Nat.add_sub_cancel, HX2.out]; simp [Aw.ok, hok, hjf, hjt, hls])
                  go_wp2
                  go_quiet ((first | (go_at_call 74; exact qdr (l03OkO_any b' (off + (k + 1) * 7) s f t l se fr sh _ hss HC.out)) | (go_at_call 75; exact quiet_lft (l04Junction_any b J _ _ hJ' h1))))
                  go_wp2
                  go_roundw
                  case rel => exact ⟨(k + 1) + 1, _, by omega, by go_num, (by have hw := HW.out; rw [hw, World.drewN_drewN]), HE⟩
                  case measure => simp [intOf]; omega
      · obtain rfl : k = xs.length := by omega
        by_cases h24 : xs.length ≤ 24
        · have HE := Lib.hid (show mineOk J xs = true by rw [HM.out, HU.out, decide_eq_true h24]; rfl)
          go_wp2
          go_ret
          have hw := HW.out
          exact ⟨ret_bool (by first | exact HE.out.symm | (rw [HE.out]; first | exact decide_eq_true (by omega) | exact decide_eq_false (by omega))), n, hw⟩
        · have HE := Lib.hid (show mineOk J xs = false by rw [HM.out, decide_eq_false h24, Bool.and_false])
          have t2 : decide ((xs.length : Int) ≤ 24) = false := decide_eq_false (by omega)
          go_wp2
          go_ret
          have hw := HW.out
          exact ⟨ret_bool (by first | exact HE.out.symm | (rw [HE.out]; first | exact decide_eq_true (by omega) | exact decide_eq_false (by omega))), n, hw⟩
  · have i1 := inB_false h1
    have HE := Lib.hid (show mineOk J xs = false by unfold mineOk; rw [i1, Bool.false_and, Bool.false_and])
    clear hr hs
    go_enter Try.func40, Try.ntmps40
    go_wp2_with (go_at_call 48; refine (l00In_any _ _ _ _).mono ?_; rintro e w' ⟨rfl, rfl⟩)
    go_ret
    exact ⟨ret_bool HE.out.symm, 0, rfl⟩
theorem rowBelow {k : IntKind} {w w' : World} {v : Value} {xs : List Int} (h : Row k w v xs) (hb : Below w.heap.size w w') : Row k w' v xs := by
  rcases h with h | ⟨b, off, c, rfl, hc⟩
  · exact Or.inl h
  · refine Or.inr ⟨b, off, c, rfl, fun j hj => ?_⟩
    have := hc j hj
    rw [hb.cell (p := ⟨b, off + j, none⟩) (World.block_lt_of_cell? (a := ⟨b, off + j, none⟩) _ this)]
    exact this
theorem hasJunctions_list (J : Int) (A : Option Addr) (n cap : Nat) (xs : List Int) (w : World) (h1 : 1 ≤ J ∧ J ≤ 16) (v : Value) (hv : Row .i64 w v xs) (hl : xs.length ≤ 1000) :
    Calls Try.prog 79 #[.agg #[.int .i64 J, .slice A n cap], v] w fun e w' => e = .returned (.bool (allR 0 (J - 1) xs)) ∧ Below w.heap.size w w' := by
  have HV := Lib.hid (rowBelow hv (below_box w (.cells #[.int .i64 J, .slice A n cap] 31)))
  clear hv
  go_enter Try.func79, Try.ntmps79
  go_wp2_with (go_at_call 54; (with_reducible refine (within64_any _ _ _ xs _ HV.out (by omega)).mono ?_); rintro e w' ⟨rfl, rfl⟩)
  go_ret
  exact ⟨rfl, below_box _ _⟩
theorem hasJunctions_two (J : Int) (A : Option Addr) (n cap : Nat) (x y : Int) (w : World) (h1 : 1 ≤ J ∧ J ≤ 16) (v : Value) (hv : Row .i64 w v [x, y]) :
    Calls Try.prog 79 #[.agg #[.int .i64 J, .slice A n cap], v] w fun e w' => e = .returned (.bool (inB x 0 (J - 1) && inB y 0 (J - 1))) ∧ Below w.heap.size w w' := by
  have h := hasJunctions_list J A n cap [x, y] w h1 v hv (by simp)
  rwa [allR_two] at h
theorem hasJunctions_one (J : Int) (A : Option Addr) (n cap : Nat) (x : Int) (w : World) (h1 : 1 ≤ J ∧ J ≤ 16) (v : Value) (hv : Row .i64 w v [x]) :
    Calls Try.prog 79 #[.agg #[.int .i64 J, .slice A n cap], v] w fun e w' => e = .returned (.bool (inB x 0 (J - 1))) ∧ Below w.heap.size w w' := by
  have h := hasJunctions_list J A n cap [x] w h1 v hv (by simp)
  rwa [allR_one] at h
end Go.Proofs.Ythbofhlfggkolaa
