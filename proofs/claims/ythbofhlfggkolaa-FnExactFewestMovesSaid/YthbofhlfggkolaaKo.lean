/-
  FewestMoves, the program's. Conditions: those that the theorem states. Conditions: those that each theorem states.
-/
import Derived.Test.YthbofhlfggkolaaKn
namespace Go.Proofs.Ythbofhlfggkolaa
open Go.RowKit
set_option linter.unusedVariables false
set_option linter.unusedSimpArgs false

set_option maxHeartbeats 2000000 in
theorem iFewestMoves_any (A : Option Addr) (cap : Nat) (xs : List (List Int)) (D1 : Option Addr) (c1 : Nat) (st1 : List Bool) (D2 : Option Addr) (c2 : Nat) (st2 : List Bool) (w : World) (hr : RowsR w A xs) (hl : xs.length ≤ 1048576) (hls : ∀ r ∈ xs, r.length ≤ 1048576)
    (hd1 : BoR w D1 st1) (hl1 : st1.length ≤ 1048576) (hd2 : BoR w D2 st2) (hl2 : st2.length ≤ 1048576) :
    Calls Try.prog 31 #[.slice A xs.length cap, .slice D1 st1.length c1, .slice D2 st2.length c2] w fun e w' => ∃ v, e = .returned (.tuple #[v, .int .i64 (fmC st1 st2 xs)]) ∧ OwnI w' w.heap.size v (fmL st1 st2 xs) ∧ Below w.heap.size w w' := by
  have HR := Lib.hid hr
  have HD1 := Lib.hid hd1
  have HD2 := Lib.hid hd2
  clear hr hd1 hd2
  cases hk1 : lkdOk st1 xs
  · have HE := Lib.hid (show fmL st1 st2 xs = [] ∧ fmC st1 st2 xs = 1 by simp [fmL, fmC, hk1])
    go_enter Try.func31, Try.ntmps31
    go_wp2_with fail
    (with_reducible refine (iAreLocked_any D1 c1 st1 A cap xs _ HD1.out hl1 HR.out hl hls).mono ?_)
    rintro e w1 ⟨rfl, hb1⟩
    have HB1 := Lib.hid hb1
    rw [hk1]
    clear hb1
    go_wp2
    go_ret2
    exact ⟨_, ret_vy HE.out.2.symm, by rw [HE.out.1]; exact own_nily _ _, HB1.out⟩
  · cases hk2 : lkdOk st2 xs
    · have HE := Lib.hid (show fmL st1 st2 xs = [] ∧ fmC st1 st2 xs = 1 by simp [fmL, fmC, hk1, hk2])
      go_enter Try.func31, Try.ntmps31
      go_wp2_with fail
      (with_reducible refine (iAreLocked_any D1 c1 st1 A cap xs _ HD1.out hl1 HR.out hl hls).mono ?_)
      rintro e w1 ⟨rfl, hb1⟩
      have HB1 := Lib.hid hb1
      rw [hk1]
      clear hb1
      go_wp2_with fail
      (with_reducible refine (iAreLocked_any D2 c2 st2 A cap xs _ (HD2.out.below HB1.out) hl2 (HR.out.below HB1.out) hl hls).mono ?_)
      rintro e w2 ⟨rfl, hb2⟩
      have HB2 := Lib.hid (HB1.out.trans (hb2.mono HB1.out.size))
      rw [hk2]
      clear hb2
      go_wp2
      go_ret2
      exact ⟨_, ret_vy HE.out.2.symm, by rw [HE.out.1]; exact own_nily _ _, HB2.out⟩
    · by_cases hn : st1.length = st2.length
      · obtain ⟨o1, p1⟩ := Bool.and_eq_true_iff.1 (show (lksOk st1.length xs && kb (stF st1) xs) = true from hk1)
        obtain ⟨o2, p2⟩ := Bool.and_eq_true_iff.1 (show (lksOk st2.length xs && kb (stF st2) xs) = true from hk2)
        have h8 := (lksOk_iff.1 o1).1
        have h12 := (lksOk_iff.1 o1).2.1
        have hn8 : st1.length ≤ 8 := by omega
        have hs := openM_lt st1 st1.length
        have ht : openM st2 st2.length < 2 ^ st1.length := by rw [hn]; exact openM_lt st2 st2.length
        have q1 : okN xs (openM st1 st1.length) = true := (okN_st o1).trans p1
        have q2 : okN xs (openM st2 st2.length) = true := (okN_st o2).trans p2
        have HP := Lib.hid (some_path (n := st1.length) (ok := okN xs) (fun s i h => okN_mod s i h) hs ht q1 q2)
        have HL := Lib.hid (show ∀ l, First st1.length (okN xs) (openM st1 st1.length) (openM st2 st2.length) l → fmL st1 st2 xs = lsV l ∧ fmC st1 st2 xs = 0 from fun l h => by
          constructor
          · unfold fmL
            rw [hk1, hk2, decide_eq_true hn]
            rw [hn] at h ⊢
            rw [if_pos (show (true && (true && true)) = true from rfl), First.eq h]
            rfl
          · simp [fmC, hk1, hk2, hn])
        have HOK := Lib.hid (show ∀ s, s < 256 → keepM s (xs.map lkM) = okN xs s from fun s h => keepM_kb o1 h)
        have HQ := Lib.hid (lkM_lt o1)
        have HO1 := Lib.hid o1
        have hml : (xs.map lkM).length = xs.length := by simp
        have HML := Lib.hid hml
        have hn2 : st2.length ≤ 8 := by omega
        have hna : ¬ ((st1.length : Int) ≠ (st2.length : Int)) := by omega
        have hnb : ((st1.length : Int) != (st2.length : Int)) = false := by simp [hn]
        have HS := Lib.hid (And.intro hs ht)
        clear o1 o2 p1 p2 q1 q2 hs ht hml hn
        go_enter Try.func31, Try.ntmps31
        go_wp2_with fail
        (with_reducible refine (iAreLocked_any D1 c1 st1 A cap xs _ HD1.out hl1 HR.out hl hls).mono ?_)
        rintro e w1 ⟨rfl, hb1⟩
        have HB1 := Lib.hid hb1
        rw [hk1]
        clear hb1
        go_wp2_with fail
        (with_reducible refine (iAreLocked_any D2 c2 st2 A cap xs _ (HD2.out.below HB1.out) hl2 (HR.out.below HB1.out) hl hls).mono ?_)
        rintro e w2 ⟨rfl, hb2⟩
        have HB2 := Lib.hid (HB1.out.trans (hb2.mono HB1.out.size))
        rw [hk2]
        clear hb2
        go_wp2_with fail
        (with_reducible refine (interlockOf_any (st1.length : Int) A cap xs w2 (HR.out.below HB2.out) HO1.out).mono ?_)
        rintro e w3 ⟨v, rfl, hov, hb3⟩
        have HB3 := Lib.hid (HB2.out.trans (hb3.mono HB2.out.size))
        have HV := Lib.hid hov
        clear hov hb3
        go_wp2_with fail
        (with_reducible refine (openOf_any D1 c1 st1 w3 (HD1.out.below HB3.out) hn8).mono ?_)
        rintro e w9 ⟨rfl, rfl⟩
        go_wp2_with fail
        (with_reducible refine (openOf_any D2 c2 st2 w3 (HD2.out.below HB3.out) hn2).mono ?_)
        rintro e w9 ⟨rfl, rfl⟩
        go_wp2_with fail
        (with_reducible refine (moves_any w2.heap.size st1.length v (xs.map lkM) (okN xs) (openM st1 st1.length) (openM st2 st2.length) w3 hn8 (by rw [HML.out]; exact HV.out) HS.out.1 HS.out.2 HQ.out (by rw [HML.out]; omega) HOK.out (by obtain ⟨p, -, h⟩ := HP.out; exact ⟨p, h⟩)).mono ?_)
        rintro e w4 ⟨u, l, rfl, hou, hF, hb4⟩
        have HE := Lib.hid (HL.out l hF)
        have HU := Lib.hid (own_ley hou HB3.out.size)
        have HB4 := Lib.hid (HB3.out.trans (hb4.mono HB3.out.size))
        obtain ⟨UA, uc, rfl⟩ := OwnI.form HU.out
        clear hou hF hb4
        go_wp2
        go_ret2
        exact ⟨_, ret_vy HE.out.2.symm, by rw [HE.out.1]; exact HU.out, HB4.out⟩
      · have HE := Lib.hid (show fmL st1 st2 xs = [] ∧ fmC st1 st2 xs = 6 by simp [fmL, fmC, hk1, hk2, hn])
        have hnb : ((st1.length : Int) != (st2.length : Int)) = true := by simp; omega
        go_enter Try.func31, Try.ntmps31
        go_wp2_with fail
        (with_reducible refine (iAreLocked_any D1 c1 st1 A cap xs _ HD1.out hl1 HR.out hl hls).mono ?_)
        rintro e w1 ⟨rfl, hb1⟩
        have HB1 := Lib.hid hb1
        rw [hk1]
        clear hb1
        go_wp2_with fail
        (with_reducible refine (iAreLocked_any D2 c2 st2 A cap xs _ (HD2.out.below HB1.out) hl2 (HR.out.below HB1.out) hl hls).mono ?_)
        rintro e w2 ⟨rfl, hb2⟩
        have HB2 := Lib.hid (HB1.out.trans (hb2.mono HB1.out.size))
        rw [hk2]
        clear hb2
        go_wp2
        go_ret2
        exact ⟨_, ret_vy HE.out.2.symm, by rw [HE.out.1]; exact own_nily _ _, HB2.out⟩
theorem fmL_len (st1 st2 : List Bool) (xs : List (List Int)) : (fmL st1 st2 xs).length ≤ 1048576 := by
  unfold fmL
  split
  · rename_i hc
    simp only [Bool.and_eq_true, decide_eq_true_eq] at hc
    obtain ⟨h1, h2, h3⟩ := hc
    obtain ⟨o1, p1⟩ := Bool.and_eq_true_iff.1 (show (lksOk st1.length xs && kb (stF st1) xs) = true from h1)
    obtain ⟨o2, p2⟩ := Bool.and_eq_true_iff.1 (show (lksOk st2.length xs && kb (stF st2) xs) = true from h2)
    have h8 := (lksOk_iff.1 o1).1
    have q1 : okN xs (openM st1 st1.length) = true := (okN_st o1).trans p1
    have q2 : okN xs (openM st2 st1.length) = true := by rw [h3]; exact (okN_st o2).trans p2
    obtain ⟨p, hpl, hp⟩ := some_path (n := st1.length) (ok := okN xs) (fun s i h => okN_mod s i h) (openM_lt st1 st1.length) (openM_lt st2 st1.length) q1 q2
    rw [List.length_map]
    unfold fmP
    split
    · rename_i h
      rcases (Exists.choose_spec h).2 p hp with e | e | ⟨e, -⟩
      · rw [e]; omega
      · omega
      · omega
    · simp
  · simp
end Go.Proofs.Ythbofhlfggkolaa
