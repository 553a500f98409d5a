/-
  Contracts of AirwaysAt: the program's and the model's. Conditions: those that each theorem states.
-/
import Derived.Test.YtofpecgmnodflaaQa
namespace Go.Proofs.Ytofpecgmnodflaa
open Go.RowKit
set_option linter.unusedVariables false
set_option linter.unusedSimpArgs false

theorem own_le {w : World} {B B' : Nat} {v : Value} {xs : List Int} (h : OwnI w B v xs) (hb : B' ≤ B) : OwnI w B' v xs :=
  ⟨h.1, h.2.elim Or.inl (fun ⟨g, cap, cur, hv, hg, r⟩ => Or.inr ⟨g, cap, cur, hv, Nat.le_trans hb hg, r⟩)⟩
theorem own_nil (w : World) (B : Nat) : OwnI w B (.slice none 0 0) [] := World.ownsRow_nil _ _ _ _
theorem openAt_any (J x : Int) (A : Option Addr) (cap : Nat) (xs : List Aw) (w : World) (hn : xs.length ≤ 1048576) (hr : AwR w A xs) :
    Calls Try.prog 47 #[.agg #[.int .i64 J, .slice A xs.length cap, (.map none)], .int .i64 x] w fun e w' => ∃ v, e = .returned v ∧ OwnI w' w.heap.size v (atTo xs x xs.length) ∧ Below w.heap.size w w' := by
  have HB0 := Lib.hid (show Below w.heap.size w ((w.alloc (.cells #[.int .i64 J, .slice A xs.length cap, (.map none)] 74)).alloc (.cells #[.int .i64 x] 2)) from (below_box _ _).alloc (by simp) _)
  have HR := Lib.hid (hr.below HB0.out)
  clear hr
  go_enter Try.func47, Try.ntmps47
  go_wp2_with fail
  (with_reducible refine (airwaysThat_any w.heap.size (w.heap.size + 1) xs.length cap J x A xs _ rfl hn ⟨by simp, by simp, by simp, by simp⟩ HR.out).mono ?_)
  rintro e w1 ⟨v, rfl, ho, hb⟩
  have HO := Lib.hid (own_le ho (by simp <;> omega : w.heap.size ≤ _))
  have HB := Lib.hid (HB0.out.trans (hb.mono (by simp <;> omega)))
  clear ho hb
  go_wp2
  go_ret
  exact ⟨_, rfl, HO.out, HB.out⟩
/-- What AirwaysAt returns. -/
def atR (J : Int) (xs : List Aw) (x : Int) : List Int := if mineOk J xs && inB x 0 (J - 1) then atTo xs x xs.length else []
def atB (J : Int) (xs : List Aw) (x : Int) : Int := if mineOk J xs then (if inB x 0 (J - 1) then 0 else 2) else 1
theorem ret_v2 {v : Value} {b b' : Int} (h : b = b') : Ending.returned (.tuple #[v, .int .i64 b]) = .returned (.tuple #[v, .int .i64 b']) := by rw [h]
theorem atR_len (J : Int) (xs : List Aw) (x : Int) : (atR J xs x).length ≤ xs.length := by
  unfold atR; split
  · exact atTo_len _ _ _
  · simp
set_option maxHeartbeats 1000000 in
theorem iAirwaysAt_any (J x : Int) (A : Option Addr) (cap : Nat) (xs : List Aw) (w : World) (hr : AwR w A xs) (hs : ∀ a ∈ xs, a.s.size ≤ maxLen) (hl : xs.length ≤ 1048576) :
    Calls Try.prog 13 #[.agg #[.int .i64 J, .slice A xs.length cap], .int .i64 x] w fun e w' => ∃ v, e = .returned (.tuple #[v, .int .i64 (atB J xs x)]) ∧ OwnI w' w.heap.size v (atR J xs x) ∧ Below w.heap.size w w' := by
  have HB0 := Lib.hid (below_box w (.cells #[.int .i64 J, .slice A xs.length cap] 31))
  have HR0 := Lib.hid (hr.below HB0.out)
  have HV := Lib.hid (iValidMine_any J A cap xs (w.alloc (.cells #[.int .i64 J, .slice A xs.length cap] 31)) HR0.out hs hl)
  clear hr hs
  cases hok : mineOk J xs
  · have HE := Lib.hid (show atB J xs x = 1 ∧ atR J xs x = [] by simp [atB, atR, hok])
    rw [hok] at HV
    go_enter Try.func13, Try.ntmps13
    go_wp2_with fail
    (with_reducible refine (HV.out).mono ?_)
    rintro e w1 ⟨rfl, hb⟩
    go_wp2
    go_ret2
    exact ⟨_, ret_v2 HE.out.1.symm, by rw [HE.out.2]; exact own_nil _ _, HB0.out.trans (hb.mono (by simp))⟩
  · obtain ⟨h1, -, -⟩ := mineOk_iff.1 hok
    rw [hok] at HV
    have HOK := Lib.hid hok
    clear hok
    cases hx : inB x 0 (J - 1)
    · have HE := Lib.hid (show atB J xs x = 2 ∧ atR J xs x = [] by simp [atB, atR, HOK.out, hx])
      have HX := Lib.hid hx
      go_enter Try.func13, Try.ntmps13
      go_wp2_with fail
      (with_reducible refine (HV.out).mono ?_)
      rintro e w1 ⟨rfl, hb⟩
      have HB1 := Lib.hid (HB0.out.trans (hb.mono (by simp)))
      obtain ⟨hc1, hf1⟩ := bcell hb
      have hz1 : w.heap.size < w1.heap.size := Nat.lt_of_lt_of_le (by simp) hb.size
      clear hb
      have HRW := Lib.hid (show Row .i64 (w1.alloc (.cells #[.int .i64 x] 2)) (.slice (some ⟨w1.heap.size, 0, none⟩) 1 1) [x] from row_alloc .i64 w1 [x] 2 1)
      go_wp2_with fail
      (with_reducible refine (hasJunctions_one J A xs.length cap x _ h1 _ HRW.out).mono ?_)
      rw [hx]
      rintro e w2 ⟨rfl, hb2⟩
      have HB2 := Lib.hid (below_w (HB1.out.alloc HB1.out.size (.cells #[.int .i64 x] 2)) hb2)
      clear hb2
      go_wp2
      go_ret2
      exact ⟨_, ret_v2 HE.out.1.symm, by rw [HE.out.2]; exact own_nil _ _, HB2.out⟩
    · have HE := Lib.hid (show atB J xs x = 0 ∧ atR J xs x = atTo xs x xs.length by simp [atB, atR, HOK.out, hx])
      go_enter Try.func13, Try.ntmps13
      go_wp2_with fail
      (with_reducible refine (HV.out).mono ?_)
      rintro e w1 ⟨rfl, hb⟩
      have HB1 := Lib.hid (HB0.out.trans (hb.mono (by simp)))
      have HR1 := Lib.hid (HR0.out.below hb)
      obtain ⟨hc1, hf1⟩ := bcell hb
      have hz1 : w.heap.size < w1.heap.size := Nat.lt_of_lt_of_le (by simp) hb.size
      clear hb
      have HRW := Lib.hid (show Row .i64 (w1.alloc (.cells #[.int .i64 x] 2)) (.slice (some ⟨w1.heap.size, 0, none⟩) 1 1) [x] from row_alloc .i64 w1 [x] 2 1)
      go_wp2_with fail
      (with_reducible refine (hasJunctions_one J A xs.length cap x _ h1 _ HRW.out).mono ?_)
      rw [hx]
      rintro e w2 ⟨rfl, hb2⟩
      have HB2 := Lib.hid (below_w (HB1.out.alloc HB1.out.size (.cells #[.int .i64 x] 2)) hb2)
      have HR2 := Lib.hid ((HR1.out.below (below_box _ _)).below hb2)
      obtain ⟨hc2, hf2⟩ := bcell hb2
      have hz2 : w.heap.size < w2.heap.size := Nat.lt_of_lt_of_le (by simp <;> omega) hb2.size
      have hz3 : w.heap.size < w1.heap.size + 1 := by omega
      have hn1 : ¬ (w.heap.size = w1.heap.size) := by omega
      clear hb2
      go_wp2_with fail
      (with_reducible refine (openAt_any J x A cap xs _ hl HR2.out).mono ?_)
      rintro e w3 ⟨v, rfl, ho, hb3⟩
      have HO := Lib.hid (own_le ho HB2.out.size)
      have HB3 := Lib.hid (below_w HB2.out hb3)
      clear ho hb3
      go_wp2
      go_ret2
      exact ⟨_, ret_v2 HE.out.1.symm, by rw [HE.out.2]; exact HO.out, HB3.out⟩
set_option maxHeartbeats 4000000 in
set_option maxRecDepth 100000 in
theorem sAirwaysAt_any (J x : Int) (A : Option Addr) (cap : Nat) (xs : List Aw) (w : World) (hr : AwR w A xs) (hs : ∀ a ∈ xs, a.s.size ≤ maxLen) (hl : xs.length ≤ 1048576) :
    Calls Try.prog 11 #[.agg #[.int .i64 J, .slice A xs.length cap], .int .i64 x] w fun e w' => ∃ v, e = .returned (.tuple #[v, .int .i64 (atB J xs x)]) ∧ OwnI w' w.heap.size v (atR J xs x) ∧ Below w.heap.size w w' := by
  have HRW := Lib.hid hr
  have HB0 := Lib.hid (below_box w (.cells #[.int .i64 J, .slice A xs.length cap] 31))
  have HR0 := Lib.hid (hr.below HB0.out)
  have HV := Lib.hid (l04Ok_any w.heap.size J A cap xs (w.alloc (.cells #[.int .i64 J, .slice A xs.length cap] 31)) (by simp) (by simp) HR0.out hs hl)
  obtain ⟨i0, hi, hz0, hz1, hz2⟩ := info_parts info_i64
  clear hr hs
  cases hok : mineOk J xs
  · have HE := Lib.hid (show atB J xs x = 1 ∧ atR J xs x = [] by simp [atB, atR, hok])
    rw [hok] at HV
    go_enter Try.func11, Try.ntmps11
    go_wp2_with fail
    (with_reducible refine (HV.out).mono ?_)
    rintro e w1 ⟨rfl, n, rfl⟩
    go_wp2
    go_ret2
    exact ⟨_, ret_v2 HE.out.1.symm, by rw [HE.out.2]; exact own_nil _ _, below_drewN' HB0.out n⟩
  · obtain ⟨h1, -, -⟩ := mineOk_iff.1 hok
    rw [hok] at HV
    have HOK := Lib.hid hok
    clear hok
    cases hx : inB x 0 (J - 1)
    · have HE := Lib.hid (show atB J xs x = 2 ∧ atR J xs x = [] by simp [atB, atR, HOK.out, hx])
      go_enter Try.func11, Try.ntmps11
      go_wp2_with fail
      (with_reducible refine (HV.out).mono ?_)
      rintro e w1 ⟨rfl, n, rfl⟩
      go_wp2_with fail
      (with_reducible refine (l04Junction_any w.heap.size J x _ (by simp) h1).mono ?_)
      rw [hx]
      rintro e w' ⟨rfl, rfl⟩
      go_wp2
      go_ret2
      exact ⟨_, ret_v2 HE.out.1.symm, by rw [HE.out.2]; exact own_nil _ _, below_drewN' HB0.out n⟩
    · have HE := Lib.hid (show atB J xs x = 0 ∧ atR J xs x = atTo xs x xs.length by simp [atB, atR, HOK.out, hx])
      go_enter Try.func11, Try.ntmps11
      go_wp2_with fail
      (with_reducible refine (HV.out).mono ?_)
      rintro e w1 ⟨rfl, n, rfl⟩
      go_wp2_with fail
      (with_reducible refine (l04Junction_any w.heap.size J x _ (by simp) h1).mono ?_)
      rw [hx]
      rintro e w' ⟨rfl, rfl⟩
      have hm0 : (w.alloc (.cells #[.int .i64 J, .slice A xs.length cap] 31)).cell? ⟨w.heap.size, 1, none⟩ = some (.slice A xs.length cap) := by simp
      have hz0' : w.heap.size < (w.alloc (.cells #[.int .i64 J, .slice A xs.length cap] 31)).heap.size := by simp
      have HM0 := Lib.hid (show ((w.alloc (.cells #[.int .i64 J, .slice A xs.length cap] 31)).drewN n).cell? ⟨w.heap.size, 1, none⟩ = some (.slice A xs.length cap) from hm0)
      have HBN := Lib.hid (show Below w.heap.size w ((w.alloc (.cells #[.int .i64 J, .slice A xs.length cap] 31)).drewN n) from below_drewN' HB0.out n)
      have hwz : w.heap.size < ((w.alloc (.cells #[.int .i64 J, .slice A xs.length cap] 31)).drewN n).heap.size := hz0'
      have HWS := Lib.hid (show ((w.alloc (.cells #[.int .i64 J, .slice A xs.length cap] 31)).drewN n).heap.size = w.heap.size + 1 from World.size_alloc w (.cells #[.int .i64 J, .slice A xs.length cap] 31))
      clear hm0 hz0'
      go_wp2_with fail
      generalize (w.alloc (.cells #[.int .i64 J, .slice A xs.length cap] 31)).drewN n = W0 at *
      have HM := Lib.hid (show (W0.alloc (.cells #[] 2)).cell? ⟨w.heap.size, 1, none⟩ = some (.slice A xs.length cap) from ((below_box W0 _).cell (p := ⟨w.heap.size, 1, none⟩) hwz).trans HM0.out)
      go_loopw [6, 7] (fun out i wr => ∃ k : Nat, k ≤ xs.length ∧ i = .int .i64 k ∧ wr.ownsRow (w.heap.size + 1) 2 1 out (atTo xs x k).length (intsV (atTo xs x k)) ∧ Below (w.heap.size + 1) (W0.alloc (.cells #[] 2)) wr) (fun out i wr => xs.length - (intOf i).toNat)
      case atStart => exact ⟨0, by omega, rfl, (by have h := World.ownsRow_lit (base := w.heap.size + 1) (e := 2) (size := 1) W0 #[] 0 (by omega) (by simp [maxLen]) rfl; rw [HWS.out] at h; exact h), Below.refl _ _⟩
      case round =>
        obtain ⟨k, hk, rfl, hown, hbel⟩ := hrel
        have hm : wr.cell? ⟨w.heap.size, 1, none⟩ = some (.slice A xs.length cap) := (hbel.cell (p := ⟨w.heap.size, 1, none⟩) (by show w.heap.size < w.heap.size + 1; omega)).trans HM.out
        have HBL := Lib.hid (show Below w.heap.size w wr from (HBN.out.alloc HBN.out.size _).trans (hbel.mono (by omega)))
        by_cases hlt : k < xs.length
        · obtain ⟨g, off, rfl, hrg⟩ := HRW.out.below HBL.out k hlt
          obtain ⟨⟨c0, c1, c2, c3⟩, c4, c5, c6⟩ := lay_row hrg
          have hy := fun h => atTo_yes (x := x) hlt h
          have hno := fun h => atTo_no (x := x) hlt h
          have hll := atTo_len xs x k
          generalize xs[k] = a at *
          obtain ⟨s, f, t, l, se, fr, sh⟩ := a
          dsimp only at c0 c1 c2 c3 c4 c5 c6 hy hno
          have HO := Lib.hid hown
          have HBE := Lib.hid hbel
          have hwr : w.heap.size + 1 ≤ wr.heap.size := by have := World.block_lt_of_cell? _ _ hm; exact this
          clear hown hbel hrg
          cases he : endB f t x
          · have HN := Lib.hid (hno he)
            have e1 : (f == x) = false := by simp only [endB, Bool.or_eq_false_iff] at he; exact he.1
            have e2 : (t == x) = false := by simp only [endB, Bool.or_eq_false_iff] at he; exact he.2
            clear hy hno he
            go_wp2
            go_roundw
            case rel => exact ⟨k + 1, by omega, by go_num, by rw [HN.out]; exact HO.out, HBE.out⟩
            case measure => simp [intOf]; omega
          · have HN := Lib.hid (hy he)
            clear hy hno
            cases e1 : (f == x)
            all_goals
              have HE1 := Lib.hid he
              have e2 : ((f == x) || (t == x)) = true := he
              rw [e1] at e2
              simp only [Bool.false_or, Bool.true_or] at e2
              clear he
              go_wp2_with (first
                | (at_builtin; refine wpList_append_own_at _ rfl _ _ 26 rfl (w.heap.size + 1) 2 i0 (.int .i64 0) 1 8 Try.underlying26 hi hz0 hz1 hz2 rfl (by decide) _ _ _ rfl (HO.out.alloc _) ⟨wr.heap.size, 0, none⟩ 1 1 [.int .i64 (k)] rfl rfl ?c1z ?c2z ?c3z ?c4z ?c5z ?_))
              case c1z => intro j u hj; match j, hj with | 0, hj => (simp at hj; subst hj; simp [Addr.add]) | j + 1, hj => (simp at hj)
              case c2z => simp [Value.oneCell']
              case c3z => unfold maxLen; omega
              case c4z => omega
              case c5z => (simp; omega)
              intro v3 w3 ho3 hg3 _ hl3
              have HO3 := Lib.hid ho3
              have HB3 := Lib.hid ((HBE.out.alloc (by omega) _).grown hg3 (by simp; omega) (fun k hk => (HO.out.lt k hk).1))
              clear ho3 hg3 hl3
              go_wp2
              go_roundw
              case rel => exact ⟨k + 1, by omega, by go_num, by rw [HN.out, ints_snoc, List.length_append]; exact HO3.out, HB3.out⟩
              case measure => simp [intOf]; omega
        · obtain rfl : k = xs.length := by omega
          have HO := Lib.hid (own_le (show OwnI wr (w.heap.size + 1) _ (atTo xs x xs.length) from hown) (by omega : w.heap.size ≤ w.heap.size + 1))
          clear hown hbel
          go_wp2
          go_ret2
          exact ⟨_, ret_v2 HE.out.1.symm, by rw [HE.out.2]; exact HO.out, HBL.out⟩
end Go.Proofs.Ytofpecgmnodflaa
