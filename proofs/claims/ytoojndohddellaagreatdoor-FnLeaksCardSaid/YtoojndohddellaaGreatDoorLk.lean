/-
  The walk of the law of leaks: nothing is added on the way, the flow that is needed is the least one, and the longest duct still brings enough. Conditions: those that each theorem states.
-/
import Derived.Test.YtoojndohddellaaGreatDoorLf
import Derived.Test.YtoojndohddellaaGreatDoorLi
import Derived.Test.YtoojndohddellaaGreatDoorLr
import Derived.Test.YtoojndohddellaaGreatDoorLt
import Derived.Test.YtoojndohddellaaGreatDoorRt
import Derived.Test.YtoojndohddellaaGreatDoorHc
import Derived.Test.YtoojndohddellaaGreatDoorRh
import Derived.BigQuiet
namespace Go.Proofs.YtoojndohddellaaGreatDoor
open Go.RowKit
set_option linter.unusedVariables false
set_option linter.unusedSimpArgs false

theorem ctT_small {s : ByteArray} {l j lo : Int} (hok : duOk s l j lo = true) : (ctT s l j lo).size ≤ 1048576 := by
  have e : ctT s l j lo = s ++ ⟨#[32]⟩ ++ ⟨(commas [l, j, lo]).toArray⟩ := by unfold ctT; rw [if_pos hok]
  have hs := isNm_size (duOk_bd hok).1
  have hfi := ct_in hok
  obtain ⟨hr, -⟩ := fitsL_iff.1 hfi
  have hl := commas_len [l, j, lo] (fun y hy => by have := hr y hy; omega)
  have hl2 : (⟨(commas [l, j, lo]).toArray⟩ : ByteArray).size ≤ 2000 := by
    have : (commas [l, j, lo]).length ≤ 2000 := by simp at hl; omega
    show (commas [l, j, lo]).toArray.size ≤ 2000
    simpa using this
  have hs2 : (s ++ (⟨#[32]⟩ : ByteArray)).size ≤ 11 := by rw [ByteArray.size_append]; show s.size + 1 ≤ 11; omega
  rw [e, ByteArray.size_append]
  omega
theorem duct_back {s : ByteArray} {l j lo : Int} (h : duOk s l j lo = true) : (ctT s l j lo).size ≤ 1048576 ∧ ctRd (ctT s l j lo).data.toList = true ∧ ctS (ctT s l j lo).data.toList = s ∧ ctV (ctT s l j lo).data.toList 0 = l ∧ ctV (ctT s l j lo).data.toList 1 = j ∧ ctV (ctT s l j lo).data.toList 2 = lo := by
  obtain ⟨hn, hl, hj, hlo⟩ := duOk_bd h
  have e : ctT s l j lo = s ++ ⟨#[32]⟩ ++ ⟨(commas [l, j, lo]).toArray⟩ := by unfold ctT; rw [if_pos h]
  obtain ⟨c1, c2⟩ := cut_named hn (commas [l, j, lo])
  obtain ⟨b1, b2⟩ := list_back (xs := [l, j, lo]) (by simp) (by simp) (by intro y hy; simp at hy; rcases hy with rfl | rfl | rfl <;> omega)
  have r : ctRd (ctT s l j lo).data.toList = true := by
    unfold ctRd
    rw [e, c1, c2, b1, b2]
    simpa using h
  refine ⟨?_, r, ?_, ?_, ?_, ?_⟩
  · exact ctT_small h
  · unfold ctS; rw [if_pos r, e, c1]
  · unfold ctV; rw [if_pos r, e, c2, b2]; rfl
  · unfold ctV; rw [if_pos r, e, c2, b2]; rfl
  · unfold ctV; rw [if_pos r, e, c2, b2]; rfl
theorem Byt.srcL {w : World} {a : Option Addr} {len : Nat} (h : Byt w a len) : BytB w.heap.size w a len := by
  rcases h with h | ⟨b, off, rfl, h⟩
  · exact .inl h
  · by_cases h0 : len = 0
    · exact .inl h0
    · obtain ⟨n, -, hc⟩ := h 0 (by omega)
      exact .inr ⟨b, off, rfl, World.block_lt_of_cell? _ _ hc, h⟩
theorem r8LongL_no (a a' : Option Addr) (n n' c c' : Nat) (w : World) (h : n ≤ 1048576) (h' : n' ≤ 1048576) : Calls Tryz.prog 4 #[.slice a n c, .slice a' n' c'] w fun e w' => e = .returned (.bool false) ∧ w = w' := by
  have t1 : ¬ (1048576 : Int) < (n : Int) := by omega
  have t2 : decide ((1048576 : Int) < (n : Int)) = false := decide_eq_false t1
  have t3 : ¬ (1048576 : Int) < (n' : Int) := by omega
  have t4 : decide ((1048576 : Int) < (n' : Int)) = false := decide_eq_false t3
  go_enter Tryz.func4, Tryz.ntmps4
  go_wp2
  go_ret
  exact ⟨by first | rfl | simp, rfl⟩
theorem r8LongL_yes (a a' : Option Addr) (n n' c c' : Nat) (w : World) (h : 1048576 < n ∨ 1048576 < n') : Calls Tryz.prog 4 #[.slice a n c, .slice a' n' c'] w fun e w' => e = .returned (.bool true) ∧ w = w' := by
  by_cases h0 : 1048576 < n
  · have t1 : (1048576 : Int) < (n : Int) := by omega
    have t2 : decide ((1048576 : Int) < (n : Int)) = true := decide_eq_true t1
    clear h
    go_enter Tryz.func4, Tryz.ntmps4
    go_wp2
    go_ret
    exact ⟨by first | rfl | simp, rfl⟩
  · have t1 : ¬ (1048576 : Int) < (n : Int) := by omega
    have t2 : decide ((1048576 : Int) < (n : Int)) = false := decide_eq_false t1
    have t3 : (1048576 : Int) < (n' : Int) := by omega
    have t4 : decide ((1048576 : Int) < (n' : Int)) = true := decide_eq_true t3
    clear h
    go_enter Tryz.func4, Tryz.ntmps4
    go_wp2
    go_ret
    exact ⟨by first | rfl | simp, rfl⟩
def absL (n : Int) : Int := if n < -n then -n else n
theorem r8AbsL_any (n : Int) (w : World) (h : -1000000000000 ≤ n ∧ n ≤ 1000000000000) :
    Calls Tryz.prog 19 #[.int .i64 n] w fun e w' => e = .returned (.int .i64 (absL n)) ∧ w = w' := by
  obtain ⟨h1, h2⟩ := h
  by_cases h0 : n < -n
  · have HE := Lib.hid (show absL n = -n from if_pos h0)
    go_enter Tryz.func19, Tryz.ntmps19
    go_wp2
    all_goals first | (exfalso; omega) | (go_ret; exact ⟨ret_int (by rw [HE.out] <;> omega), rfl⟩)
  · have HE := Lib.hid (show absL n = n from if_neg h0)
    go_enter Tryz.func19, Tryz.ntmps19
    go_wp2
    all_goals first | (exfalso; omega) | (go_ret; exact ⟨ret_int (by rw [HE.out] <;> omega), rfl⟩)
theorem own_posL {w : World} {B e s n : Nat} {v : Value} {xs : List Value} (h : w.ownsRow B e s v n xs) (hn : 0 < n) : ∃ g cap, v = .slice (some ⟨g, 0, none⟩) n cap := by
  rcases h.2 with ⟨_, h0⟩ | ⟨g, cap, _, hv, _⟩
  · omega
  · exact ⟨g, cap, hv⟩
theorem at_app {xs : List Int} {x : Int} {j : Nat} (h : j < xs.length) : (xs ++ [x]).getD j 0 = xs.getD j 0 := by
  simp [List.getD, List.getElem?_append_left h]
theorem at_app2 {xs : List Int} {x : Int} {j : Nat} (h : j = xs.length) : (xs ++ [x]).getD j 0 = x := by
  subst h; simp [List.getD]
set_option maxHeartbeats 8000000 in
set_option maxRecDepth 100000 in
theorem fnLeaks_any (a a' : Option Addr) (len cap len' cap' : Nat) (w : World) (hB0 : Byt w a len) (hB1 : Byt w a' len') (hP : Pow w) (hE : ErrV w) (hM : MaxV w) :
    Calls Tryz.prog 3 #[.slice a len cap, .slice a' len' cap'] w fun e w' => e = .returned (.bool true) ∧ Below w.heap.size w w' := by
  by_cases hlong : 1048576 < len ∨ 1048576 < len'
  · go_enter Tryz.func3, Tryz.ntmps3
    go_wp2_with fail
    (with_reducible refine (r8LongL_yes _ _ _ _ _ _ _ hlong).mono ?_)
    rintro e w' ⟨rfl, rfl⟩
    go_wp2
    go_ret
    exact ⟨rfl, Below.refl _ _⟩
  · have l0 : len ≤ 1048576 := by omega
    have l1 : len' ≤ 1048576 := by omega
    obtain ⟨q, ⟨hq1, hq2⟩, hQ⟩ := r8Wide_at a' len' cap' 0 5000 w hB1 l1 (by omega) (by omega)
    obtain ⟨g, hg⟩ : ∃ g : Nat → Int, ∀ k : Nat, k < 5 → (0 ≤ g k ∧ g k < 200) ∧ ∀ W, Below w.heap.size w W → Calls Tryz.prog 15 #[.slice a' len' cap', .int .i64 (2 + (k : Int)), .int .i64 200] W fun e w' => e = .returned (.int .i64 (g k)) ∧ W = w' := by
      have h : ∀ k : Nat, ∃ x : Int, k < 5 → (0 ≤ x ∧ x < 200) ∧ ∀ W, Below w.heap.size w W → Calls Tryz.prog 15 #[.slice a' len' cap', .int .i64 (2 + (k : Int)), .int .i64 200] W fun e w' => e = .returned (.int .i64 x) ∧ W = w' := by
        intro k
        by_cases hk : k < 5
        · obtain ⟨x, hx, hX⟩ := r8At_at a' len' cap' (2 + k) 200 w hB1 l1 (by omega) (by omega)
          rw [show ((2 + k : Nat) : Int) = 2 + (k : Int) by omega] at hX
          exact ⟨x, fun _ => ⟨hx, hX⟩⟩
        · exact ⟨0, fun h => absurd h hk⟩
      exact ⟨fun k => Classical.choose (h k), fun k => Classical.choose_spec (h k)⟩
    obtain ⟨m, ⟨hm1, hm2⟩, hMk⟩ := r8At_at a' len' cap' 9 5 w hB1 l1 (by omega) (by omega)
    have HQ := Lib.hid (show ∀ W, Below w.heap.size w W → Calls Tryz.prog 6 #[.slice a' len' cap', .int .i64 0, .int .i64 5000] W fun e w' => e = .returned (.int .i64 q) ∧ W = w' from hQ)
    have HG := Lib.hid hg
    have HMK := Lib.hid (show ∀ W, Below w.heap.size w W → Calls Tryz.prog 15 #[.slice a' len' cap', .int .i64 9, .int .i64 5] W fun e w' => e = .returned (.int .i64 m) ∧ W = w' from hMk)
    have HSRC := Lib.hid (Byt.srcL hB0)
    have HT := Lib.hid (And.intro hP (And.intro hE hM))
    clear hQ hg hMk hB0 hB1 hP hE hM hlong
    go_enter Tryz.func3, Tryz.ntmps3
    go_wp2_with fail
    (with_reducible refine (r8LongL_no _ _ _ _ _ _ _ l0 l1).mono ?_)
    rintro e w' ⟨rfl, rfl⟩
    go_wp2_with fail
    (with_reducible refine (R8Duct_any _ _ _ _ HSRC.out l0).mono ?_)
    rintro e w1 ⟨s, l, j, lo, ⟨hok, hsz⟩, rfl, hd1⟩
    have HBe1 := Lib.hid hd1
    clear hd1
    obtain ⟨E, M, L, X, Dm, ⟨e1, e2⟩, ⟨e3, e4⟩, ⟨e5, e6⟩, ⟨e7, e8⟩, ⟨e9, e10⟩, ⟨e11, e12⟩, ⟨e13, e14, e15⟩, e16, ⟨e17, e18, e19, e20⟩, e21, e22, e23⟩ := leak_duct hok hq1 hq2
    obtain ⟨b1, b2, b3, b4, b5, b6⟩ := duct_back hok
    have hs : s.size ≤ maxLen := by unfold maxLen; omega
    have hJb := (duOk_bd hok).2
    have hJ := duJ_bd hJb.1.1 hJb.1.2 hJb.2.1.1
    obtain ⟨J, hJe⟩ : ∃ J, duJ l j = J := ⟨_, rfl⟩
    rw [hJe] at e3 e5 e6 hJ
    obtain ⟨Tx, hTx⟩ : ∃ Tx, ctT s l j lo = Tx := ⟨_, rfl⟩
    rw [hTx] at b1 b2 b3 b4 b5 b6
    have H1 := Lib.hid (fun W => iFlowAtEnd_any s l j lo q W hs)
    have H2 := Lib.hid (fun W => iJointsOf_any s l j lo W hs)
    have H3 := Lib.hid (fun W => iFlowAfter_any s l j lo q J W hs)
    have H4 := Lib.hid (fun W (h : Below w.heap.size w W) => iDuctText_any s l j lo W hs (HT.out.1.below h))
    have H5 := Lib.hid (fun W (h : Below w.heap.size w W) => iReadDuct_any Tx W b1 (HT.out.1.below h) (HT.out.2.1.below h) (HT.out.2.2.below h))
    have H6 := Lib.hid (fun W => iFlowNeeded_any s l j lo E W hs)
    have H7 := Lib.hid (fun W => iFlowAtEnd_any s l j lo M W hs)
    have H8 := Lib.hid (fun W => iFlowAtEnd_any s l j lo (M - 1) W hs)
    have H9 := Lib.hid (fun W => iLongestDuct_any s l j lo q E W hs)
    have H10 := Lib.hid (fun W => sFlowAtEnd_any s L j lo q W hs)
    rw [e1, e2] at H1
    rw [e3, e4] at H2
    rw [e5, e6] at H3
    rw [hTx] at H4
    rw [b2, b3, b4, b5, b6] at H5
    rw [e9, e10] at H6
    rw [e13, e14] at H7
    rw [e17, e18] at H9
    rw [e21, e22] at H10
    obtain ⟨Y1, hY1⟩ : ∃ Y1, feA s l j lo (M - 1) = Y1 := ⟨_, rfl⟩
    obtain ⟨Y2, hY2⟩ : ∃ Y2, feB s l j lo (M - 1) = Y2 := ⟨_, rfl⟩
    rw [hY1, hY2] at H8 e16
    have HM1 := Lib.hid e16
    clear e1 e2 e3 e4 e5 e6 e9 e10 e13 e14 e16 e17 e18 e21 e22 b1 b2 b3 b4 b5 b6 hTx hJe hY1 hY2 hok hJb
    have n1 : ¬ E < 0 := by omega
    have n2 : ¬ q < E := by omega
    have n3 : ¬ q < M := by omega
    have n4 : ¬ M < E := by omega
    have n5 : ¬ Dm < E := by omega
    have n6 : ¬ L < 1 := by omega
    have n7 : ¬ 2000 < L := by omega
    go_wp2_with fail
    have HB2 := Lib.hid (show Below w.heap.size w (w1.alloc (.cells #[.string s, .int .i64 l, .int .i64 j, .int .i64 lo] 25)) from HBe1.out.alloc HBe1.out.size _)
    have D2 := Lib.hid (show DuAt (w1.alloc (.cells #[.string s, .int .i64 l, .int .i64 j, .int .i64 lo] 25)) w1.heap.size s l j lo by unfold DuAt; simp)
    have hlt : w.heap.size ≤ w1.heap.size := HBe1.out.size
    generalize hgp : w1.heap.size = p at *
    generalize w1.alloc (.cells #[.string s, .int .i64 l, .int .i64 j, .int .i64 lo] 25) = w2 at *
    clear HBe1
    (with_reducible refine (HQ.out w2 HB2.out).mono ?_)
    rintro e w' ⟨rfl, rfl⟩
    obtain ⟨d0_2, d1_2, d2_2, d3_2⟩ := D2.out
    go_wp2_with fail
    (with_reducible refine (H1.out w2).mono ?_)
    rintro e w3 ⟨rfl, hd⟩
    clear d0_2 d1_2 d2_2 d3_2
    have HB3 := Lib.hid (HB2.out.trans (hd.mono HB2.out.size))
    have D3 := Lib.hid (D2.out.below hd D2.out.lt)
    clear hd
    obtain ⟨d0_3, d1_3, d2_3, d3_3⟩ := D3.out
    go_wp2_with fail
    (with_reducible refine (H2.out w3).mono ?_)
    rintro e w4 ⟨rfl, hd⟩
    clear d0_3 d1_3 d2_3 d3_3
    have HB4 := Lib.hid (HB3.out.trans (hd.mono HB3.out.size))
    have D4 := Lib.hid (D3.out.below hd D3.out.lt)
    clear hd
    obtain ⟨d0_4, d1_4, d2_4, d3_4⟩ := D4.out
    go_wp2_with fail
    (with_reducible refine (H3.out w4).mono ?_)
    rintro e w5 ⟨rfl, hd⟩
    clear d0_4 d1_4 d2_4 d3_4
    have HB5 := Lib.hid (HB4.out.trans (hd.mono HB4.out.size))
    have D5 := Lib.hid (D4.out.below hd D4.out.lt)
    clear hd
    obtain ⟨d0_5, d1_5, d2_5, d3_5⟩ := D5.out
    go_wp2_with fail
    (with_reducible refine (H4.out w5 HB5.out).mono ?_)
    rintro e w6 ⟨rfl, hd⟩
    clear d0_5 d1_5 d2_5 d3_5
    have HB6 := Lib.hid (HB5.out.trans (hd.mono HB5.out.size))
    have D6 := Lib.hid (D5.out.below hd D5.out.lt)
    clear hd
    obtain ⟨d0_6, d1_6, d2_6, d3_6⟩ := D6.out
    go_wp2_with fail
    (with_reducible refine (H5.out w6 HB6.out).mono ?_)
    rintro e w7 ⟨rfl, hd⟩
    clear d0_6 d1_6 d2_6 d3_6
    have HB7 := Lib.hid (HB6.out.trans (hd.mono HB6.out.size))
    have D7 := Lib.hid (D6.out.below hd D6.out.lt)
    clear hd
    obtain ⟨d0, d1, d2, d3⟩ := D7.out
    have hp7 : p < w7.heap.size := D7.out.lt
    have hpn : ¬ (p = w7.heap.size) := Nat.ne_of_lt hp7
    go_wp2_with fail
    clear d0 d1 d2 d3
    have HB8 := Lib.hid (show Below w.heap.size w (w7.alloc (.cells #[.string s, .int .i64 l, .int .i64 j, .int .i64 lo] 25)) from HB7.out.alloc HB7.out.size _)
    have D8 := Lib.hid (D7.out.below (below_box w7 (.cells #[.string s, .int .i64 l, .int .i64 j, .int .i64 lo] 25)) hp7)
    generalize w7.alloc (.cells #[.string s, .int .i64 l, .int .i64 j, .int .i64 lo] 25) = w8 at *
    (with_reducible refine (H6.out w8).mono ?_)
    rintro e w9 ⟨rfl, hd⟩
    have HB9 := Lib.hid (HB8.out.trans (hd.mono HB8.out.size))
    have D9 := Lib.hid (D8.out.below hd D8.out.lt)
    clear hd
    obtain ⟨d0_9, d1_9, d2_9, d3_9⟩ := D9.out
    go_wp2_with fail
    (with_reducible refine (H7.out w9).mono ?_)
    rintro e w10 ⟨rfl, hd⟩
    clear d0_9 d1_9 d2_9 d3_9
    have HB10 := Lib.hid (HB9.out.trans (hd.mono HB9.out.size))
    have D10 := Lib.hid (D9.out.below hd D9.out.lt)
    clear hd
    obtain ⟨d0_10, d1_10, d2_10, d3_10⟩ := D10.out
    go_wp2_with fail
    (with_reducible refine (H8.out w10).mono ?_)
    rintro e w11 ⟨rfl, hd⟩
    clear d0_10 d1_10 d2_10 d3_10
    have HB11 := Lib.hid (HB10.out.trans (hd.mono HB10.out.size))
    have D11 := Lib.hid (D10.out.below hd D10.out.lt)
    clear hd
    obtain ⟨i0, hi, hz0, hz1, hz2⟩ := info_parts info_i64
    by_cases hM0 : 0 < M
    · obtain ⟨rfl, hY⟩ := HM1.out hM0
      have n8 : ¬ E ≤ Y1 := by omega
      obtain ⟨d0_11, d1_11, d2_11, d3_11⟩ := D11.out
      go_wp2_with fail
      (with_reducible refine (H9.out w11).mono ?_)
      rintro e w12 ⟨rfl, hd⟩
      clear d0_11 d1_11 d2_11 d3_11
      have HB12 := Lib.hid (HB11.out.trans (hd.mono HB11.out.size))
      have D12 := Lib.hid (D11.out.below hd D11.out.lt)
      clear hd
      obtain ⟨d0, d1, d2, d3⟩ := D12.out
      have hp12 : p < w12.heap.size := D12.out.lt
      have hpn12 : ¬ (p = w12.heap.size) := Nat.ne_of_lt hp12
      go_wp2_with fail
      clear d0 d1 d2 d3
      have HB13 := Lib.hid (HB12.out.alloc HB12.out.size (.cells #[.string s, .int .i64 L, .int .i64 j, .int .i64 lo] 25))
      generalize w12.alloc (.cells #[.string s, .int .i64 L, .int .i64 j, .int .i64 lo] 25) = w13 at *
      (with_reducible refine (H10.out w13).mono ?_)
      rintro e w14 ⟨rfl, hd⟩
      have HB14 := Lib.hid (HB13.out.trans (hd.mono HB13.out.size))
      clear hd
      go_wp2
      go_loopw [26, 27] (fun v c wr => ∃ (k : Nat) (xs : List Int), k ≤ 5 ∧ c = .int .i64 (k : Int) ∧ xs.length = k + 1 ∧ Hid (xs.getD 0 0 = q ∧ ∀ j : Nat, j < k → 0 ≤ xs.getD (j + 1) 0 ∧ xs.getD (j + 1) 0 ≤ xs.getD j 0) ∧ wr.ownsRow w14.heap.size 2 1 v (k + 1) (intsV xs) ∧ Below w14.heap.size w14 wr) (fun v c wr => 5 - (intOf c).toNat)
      case atStart => exact ⟨0, [q], by omega, rfl, rfl, Lib.hid ⟨rfl, fun j h => absurd h (by omega)⟩, World.ownsRow_lit w14 #[.int .i64 q] 1 (Nat.le_refl _) (by simp [maxLen]) rfl, below_box _ _⟩
      case round =>
        obtain ⟨k, xs, hk, rfl, hxl, HA, hout, hbel⟩ := hrel
        have hwz := hbel.size
        obtain ⟨gl, cl, rfl⟩ := own_posL hout (by omega)
        have HO := Lib.hid hout
        by_cases hlt : k < 5
        · obtain ⟨z, hz⟩ : ∃ z, xs.getD k 0 = z := ⟨_, rfl⟩
          have HZ := Lib.hid hz
          have hzb : 0 ≤ z ∧ z < 5000 := by
            have key : ∀ i : Nat, i ≤ k → 0 ≤ xs.getD i 0 ∧ xs.getD i 0 ≤ q := by
              intro i
              induction i with
              | zero => intro _; rw [HA.out.1]; omega
              | succ i ih =>
                intro hi2
                have a1 := ih (by omega)
                have a2 := HA.out.2 i (by omega)
                omega
            have := key k (Nat.le_refl _)
            omega
          have hcd : wr.drew.cell? ⟨gl, k, none⟩ = some (.int .i64 z) := by
            rw [← hz]
            exact (hout.cellAt k (by omega)).trans (by simp [intsV, List.getD, show k < xs.length by omega])
          obtain ⟨⟨hr1, hr2⟩, hR⟩ := HG.out k hlt
          have HR8 := Lib.hid hR
          clear hR hz
          generalize g k = r at *
          have hkI : (k : Int) < (k : Int) + 1 := by omega
          have hkl : (k : Int) < 5 := by omega
          have h0k : (0 : Int) ≤ (k : Int) := by omega
          have hwk : IntKind.i64.wrap (k : Int) = (k : Int) := IntWalk.i64_in _ (by omega)
          have hw2 : IntKind.i64.wrap (2 + (k : Int)) = 2 + (k : Int) := IntWalk.i64_in _ (by omega)
          have hws : IntKind.i64.wrap (z - r) = z - r := IntWalk.i64_in _ (by omega)
          clear hout
          have hmx : 0 ≤ max 0 (z - r) ∧ max 0 (z - r) ≤ z := by omega
          go_wp2_with fail
          refine wp_region_held (S := fun w' => Below w14.heap.size w14 w') (by kernel_rfl) ?_
          try (change wpAnyH _ _ _ _ _ _ _ _ (World.drew _))
          have hS0 := (show Below w14.heap.size w14 wr.drew from hbel.drew)
          refine gTake 0 (v := ?_) rfl (by kernel_rfl) (by kernel_rfl) (by kernel_rfl) (fun _ _ _ h => h) (by kernel_rfl) ?_ hS0 ?_
          rotate_left
          · (intro W hW; clear hW; go_simp; try with_reducible rfl)
          refine gTake 1 (v := ?_) rfl (by kernel_rfl) (by kernel_rfl) (by kernel_rfl) (fun _ _ _ h => h) (by kernel_rfl) ?_ hS0 ?_
          rotate_left
          · (intro W hW; clear hW; go_simp; try with_reducible rfl)
          refine gTake 2 (v := ?_) rfl (by kernel_rfl) (by kernel_rfl) (by kernel_rfl) (fun _ _ _ h => h) (by kernel_rfl) ?_ hS0 ?_
          rotate_left
          · (intro W hW; clear hW; go_simp; try with_reducible rfl)
          refine gTake 3 (v := ?_) rfl (by kernel_rfl) (by kernel_rfl) (by kernel_rfl) (fun _ _ _ h => h) (by kernel_rfl) ?_ hS0 ?_
          rotate_left
          · (intro W hW; clear hW; go_simp; try with_reducible rfl)
          refine gTake 5 (v := ?_) rfl (by kernel_rfl) (by kernel_rfl) (by kernel_rfl) (fun _ _ _ h => h) (by kernel_rfl) ?_ hS0 ?_
          rotate_left
          · (intro W hW; clear hW; go_simp; try with_reducible rfl)
          refine gTake 6 (v := ?_) rfl (by kernel_rfl) (by kernel_rfl) (by kernel_rfl) (fun _ _ _ h => h) (by kernel_rfl) ?_ hS0 ?_
          rotate_left
          · (intro W hW; clear hW; go_simp; try with_reducible rfl)
          refine gTake 7 (v := ?_) rfl (by kernel_rfl) (by kernel_rfl) (by kernel_rfl) (fun _ _ _ h => h) (by kernel_rfl) ?_ hS0 ?_
          rotate_left
          · (intro W hW; clear hW; go_simp; try with_reducible rfl)
          refine gTwo 4 8 rfl rfl (by kernel_rfl) (by kernel_rfl) (by kernel_rfl) (fun K hK => ?_) (fun K hK => ?_)
          · go_simp
            skip
            have hS1 := hS0
            refine hK _ _ hS1 ?_
            clear hK K
            refine gOne 8 rfl (by kernel_rfl) (by kernel_rfl) (fun K hK => ?_)
            go_simp
            go_at_call 15
            (with_reducible refine (HR8.out _ (HB14.out.trans ((hbel.drew).mono HB14.out.size))).mono ?_)
            rintro e w' ⟨rfl, rfl⟩
            try go_simp
            have hS2 := hS1
            refine hK _ _ hS2 ?_
            clear hK K
            refine gTake 9 (v := ?_) rfl (by kernel_rfl) (by kernel_rfl) (by kernel_rfl) (fun _ _ _ h => h) (by kernel_rfl) ?_ hS2 ?_
            rotate_left
            · (intro W hW; clear hW; go_simp; try with_reducible rfl)
            refine gTake 10 (v := ?_) rfl (by kernel_rfl) (by kernel_rfl) (by kernel_rfl) (fun _ _ _ h => h) (by kernel_rfl) ?_ hS2 ?_
            rotate_left
            · (intro W hW; clear hW; go_simp; try with_reducible rfl)
            refine gOne 11 rfl (by kernel_rfl) (by kernel_rfl) (fun K hK => ?_)
            go_simp
            skip
            have hS3 := (show Below w14.heap.size w14 (wr.drew.alloc (.cells #[.int .i64 (max 0 (z - r))] 2)) from (hbel.drew).alloc hwz _)
            refine hK _ _ hS3 ?_
            clear hK K
            refine gOne 12 rfl (by kernel_rfl) (by kernel_rfl) (fun K hK => ?_)
            refine gAppendOwn (.tmp 183) (.tmp 194) 35 rfl 2 i0 (.int .i64 0) 1 8 Tryz.underlying35 hi hz0 hz1 hz2 rfl (by decide) w14.heap.size (.slice (some ⟨gl, 0, none⟩) (k + 1) cl) (k + 1) (intsV xs) (by simp [Act.eval, Act.put]) (HO.out.alloc (.cells #[.int .i64 (max 0 (z - r))] 2)) ⟨wr.heap.size, 0, none⟩ 1 1 [.int .i64 (max 0 (z - r))] (by simp [Act.eval, Act.put]) rfl (fun j u hj => by match j, hj with | 0, hj => (simp at hj; subst hj; simp [Addr.add]) | j + 1, hj => (simp at hj)) (by simp [Value.oneCell']) (by unfold maxLen; omega) (by omega) (by simp; omega) ?_
            intro v' w3 ho3 hg3
            have HB3 : Below w14.heap.size w14 w3 := ((hbel.drew).alloc hwz _).grown hg3 (by simp; omega) (fun k hk => (HO.out.lt k hk).1)
            have hS4 := (show Below w14.heap.size w14 w3 from HB3)
            refine hK _ _ hS4 ?_
            clear hK K
            refine gTake 13 (v := ?_) rfl (by kernel_rfl) (by kernel_rfl) (by kernel_rfl) (fun _ _ _ h => h) (by kernel_rfl) ?_ hS4 ?_
            rotate_left
            · (intro W hW; clear hW; go_simp; try with_reducible rfl)
            refine wpAnyH_done (by kernel_rfl) ?_ _
            go_simp
            have HOO := Lib.hid ho3
            have HBB := Lib.hid HB3
            clear ho3 hg3 HB3
            go_wp2
            go_roundw
            case rel =>
              refine ⟨k + 1, xs ++ [(max 0 (z - r))], by omega, by go_num, by rw [List.length_append, hxl]; rfl, Lib.hid ⟨?_, ?_⟩, by simpa [intsV] using HOO.out, HBB.out⟩
              · rw [at_app (by omega)]; exact HA.out.1
              · intro j hj
                rcases Nat.lt_or_ge j k with h | h
                · rw [at_app (show j + 1 < xs.length by omega), at_app (show j < xs.length by omega)]; exact HA.out.2 j h
                · obtain rfl : j = k := by omega
                  rw [at_app2 (show j + 1 = xs.length by omega), at_app (show j < xs.length by omega), HZ.out]
                  omega
            case measure => simp [intOf]; omega
          · go_simp
            go_at_call 15
            (with_reducible refine (HR8.out _ (HB14.out.trans ((hbel.drew).mono HB14.out.size))).mono ?_)
            rintro e w' ⟨rfl, rfl⟩
            try go_simp
            have hS1 := hS0
            refine hK _ _ hS1 ?_
            clear hK K
            refine gOne 4 rfl (by kernel_rfl) (by kernel_rfl) (fun K hK => ?_)
            go_simp
            skip
            have hS2 := hS1
            refine hK _ _ hS2 ?_
            clear hK K
            refine gTake 9 (v := ?_) rfl (by kernel_rfl) (by kernel_rfl) (by kernel_rfl) (fun _ _ _ h => h) (by kernel_rfl) ?_ hS2 ?_
            rotate_left
            · (intro W hW; clear hW; go_simp; try with_reducible rfl)
            refine gTake 10 (v := ?_) rfl (by kernel_rfl) (by kernel_rfl) (by kernel_rfl) (fun _ _ _ h => h) (by kernel_rfl) ?_ hS2 ?_
            rotate_left
            · (intro W hW; clear hW; go_simp; try with_reducible rfl)
            refine gOne 11 rfl (by kernel_rfl) (by kernel_rfl) (fun K hK => ?_)
            go_simp
            skip
            have hS3 := (show Below w14.heap.size w14 (wr.drew.alloc (.cells #[.int .i64 (max 0 (z - r))] 2)) from (hbel.drew).alloc hwz _)
            refine hK _ _ hS3 ?_
            clear hK K
            refine gOne 12 rfl (by kernel_rfl) (by kernel_rfl) (fun K hK => ?_)
            refine gAppendOwn (.tmp 183) (.tmp 194) 35 rfl 2 i0 (.int .i64 0) 1 8 Tryz.underlying35 hi hz0 hz1 hz2 rfl (by decide) w14.heap.size (.slice (some ⟨gl, 0, none⟩) (k + 1) cl) (k + 1) (intsV xs) (by simp [Act.eval, Act.put]) (HO.out.alloc (.cells #[.int .i64 (max 0 (z - r))] 2)) ⟨wr.heap.size, 0, none⟩ 1 1 [.int .i64 (max 0 (z - r))] (by simp [Act.eval, Act.put]) rfl (fun j u hj => by match j, hj with | 0, hj => (simp at hj; subst hj; simp [Addr.add]) | j + 1, hj => (simp at hj)) (by simp [Value.oneCell']) (by unfold maxLen; omega) (by omega) (by simp; omega) ?_
            intro v' w3 ho3 hg3
            have HB3 : Below w14.heap.size w14 w3 := ((hbel.drew).alloc hwz _).grown hg3 (by simp; omega) (fun k hk => (HO.out.lt k hk).1)
            have hS4 := (show Below w14.heap.size w14 w3 from HB3)
            refine hK _ _ hS4 ?_
            clear hK K
            refine gTake 13 (v := ?_) rfl (by kernel_rfl) (by kernel_rfl) (by kernel_rfl) (fun _ _ _ h => h) (by kernel_rfl) ?_ hS4 ?_
            rotate_left
            · (intro W hW; clear hW; go_simp; try with_reducible rfl)
            refine wpAnyH_done (by kernel_rfl) ?_ _
            go_simp
            have HOO := Lib.hid ho3
            have HBB := Lib.hid HB3
            clear ho3 hg3 HB3
            go_wp2
            go_roundw
            case rel =>
              refine ⟨k + 1, xs ++ [(max 0 (z - r))], by omega, by go_num, by rw [List.length_append, hxl]; rfl, Lib.hid ⟨?_, ?_⟩, by simpa [intsV] using HOO.out, HBB.out⟩
              · rw [at_app (by omega)]; exact HA.out.1
              · intro j hj
                rcases Nat.lt_or_ge j k with h | h
                · rw [at_app (show j + 1 < xs.length by omega), at_app (show j < xs.length by omega)]; exact HA.out.2 j h
                · obtain rfl : j = k := by omega
                  rw [at_app2 (show j + 1 = xs.length by omega), at_app (show j < xs.length by omega), HZ.out]
                  omega
            case measure => simp [intOf]; omega
        · obtain rfl : k = 5 := by omega
          have hx6 : xs.length = 6 := hxl
          obtain ⟨K, rfl⟩ := Int.eq_ofNat_of_zero_le hm1
          obtain ⟨f1, ⟨f2, f3⟩, ⟨f4, f5⟩, ⟨f6, f7, f8⟩, ⟨f9, f10⟩, f11, f12⟩ := leak_flows (k := K) hx6 HA.out.1 hq2 HA.out.2 hq1 (by omega)
          have key : ∀ i : Nat, i ≤ 5 → 0 ≤ xs.getD i 0 ∧ xs.getD i 0 ≤ q := by
            intro i
            induction i with
            | zero => intro _; rw [HA.out.1]; omega
            | succ i ih =>
              intro hi2
              have a1 := ih (by omega)
              have a2 := HA.out.2 i (by omega)
              omega
          have RL := Lib.hid (show Row .i64 wr (.slice (some ⟨gl, 0, none⟩) (5 + 1) cl) xs from Row.of_own hout)
          have HX0 := Lib.hid HA.out.1
          have HL1 := Lib.hid (fun W (hv : Row .i64 W (.slice (some ⟨gl, 0, none⟩) (5 + 1) cl) xs) => iLossesOf_any _ xs W hv (by omega))
          have HL2 := Lib.hid (fun W (hv : Row .i64 W (.slice (some ⟨gl, 0, none⟩) (5 + 1) cl) xs) => iMendJoint_any _ xs (K : Int) W hv (by omega))
          have HL3 := Lib.hid (fun W (hv : Row .i64 W (.slice (some ⟨gl, 0, none⟩) (5 + 1) cl) xs) => iMeanLoss_any _ xs W hv (by omega))
          rw [f1, f2] at HL1
          rw [f4, f5] at HL2
          rw [f9, f10] at HL3
          obtain ⟨x5, hx5⟩ : ∃ x, xs.getD 5 0 = x := ⟨_, rfl⟩
          obtain ⟨z5, hz5⟩ : ∃ x, (mjT xs K 6).getD 5 0 = x := ⟨_, rfl⟩
          rw [hx5] at f3 f7 f11 f12 HL3
          rw [hz5] at f7 f8
          obtain ⟨MV, hMV⟩ : ∃ x, divR (q - x5) 5 = x := ⟨_, rfl⟩
          rw [hMV] at HL3
          obtain ⟨hn1, hn2⟩ := mean_near (s := q - x5) (by omega) hMV
          have HF := Lib.hid (And.intro f6 (And.intro hz5 (And.intro hx5 (And.intro f3 key))))
          have HAB := Lib.hid (fun W => r8AbsL_any (5 * MV - (q - x5)) W (by omega))
          obtain ⟨ZA, hZA⟩ : ∃ x, absL (5 * MV - (q - x5)) = x := ⟨_, rfl⟩
          have hZ3 : ZA ≤ 3 := by rw [← hZA]; unfold absL; split <;> omega
          rw [hZA] at HAB
          have HB15a := Lib.hid (HB14.out.trans (hbel.mono HB14.out.size))
          clear f1 f2 f3 f4 f5 f6 f9 f10 hz5 hx5 hMV hZA key hout hbel hwz HO HA hxl
          go_wp2_with fail
          (with_reducible refine (HL1.out wr RL.out).mono ?_)
          rintro e w15 ⟨v1, rfl, ho1, hd⟩
          unfold OwnI at ho1
          rw [lsT_len] at ho1
          obtain ⟨g1, cg1, rfl⟩ := own_posL ho1 (by omega)
          have HB15 := Lib.hid (HB15a.out.trans (hd.mono HB15a.out.size))
          have RL15 := Lib.hid (RL.out.below hd)
          have R15 := Lib.hid (show Row .i64 w15 (.slice (some ⟨g1, 0, none⟩) 5 cg1) (lsT xs 5) from Row.of_own ho1)
          clear hd ho1 RL HL1
          go_wp2_with fail
          (with_reducible refine (HMK.out w15 HB15.out).mono ?_)
          rintro e w' ⟨rfl, rfl⟩
          go_wp2_with fail
          (with_reducible refine (HL2.out w15 RL15.out).mono ?_)
          rintro e w16 ⟨v2, rfl, ho2, hd⟩
          unfold OwnI at ho2
          rw [mjT_len] at ho2
          obtain ⟨g2, cg2, rfl⟩ := own_posL ho2 (by omega)
          have HB16 := Lib.hid (HB15.out.trans (hd.mono HB15.out.size))
          have RL16 := Lib.hid (RL15.out.below hd)
          have R16 := Lib.hid (R15.out.below hd)
          have M16 := Lib.hid (show Row .i64 w16 (.slice (some ⟨g2, 0, none⟩) 6 cg2) (mjT xs K 6) from Row.of_own ho2)
          clear hd ho2 RL15 R15 HL2
          go_wp2_with fail
          (with_reducible refine (HL3.out w16 RL16.out).mono ?_)
          rintro e w17 ⟨rfl, hd⟩
          have HB17 := Lib.hid (HB16.out.trans (hd.mono HB16.out.size))
          obtain ⟨ba, oa, ea, -, cL0⟩ := Row.cell (RL16.out.below hd) (show 0 < xs.length by omega)
          obtain ⟨bb, ob, eb, -, cL5⟩ := Row.cell (RL16.out.below hd) (show 5 < xs.length by omega)
          injection ea with ea; injection ea with ea1 ea2
          injection eb with eb; injection eb with eb1 eb2
          subst ea1 ea2 eb1 eb2
          obtain ⟨bc, oc, ec, -, cM0⟩ := Row.cell (M16.out.below hd) (show 0 < (mjT xs K 6).length by rw [mjT_len]; omega)
          obtain ⟨bd, od, ed, -, cM5⟩ := Row.cell (M16.out.below hd) (show 5 < (mjT xs K 6).length by rw [mjT_len]; omega)
          injection ec with ec; injection ec with ec1 ec2
          injection ed with ed; injection ed with ed1 ed2
          subst ec1 ec2 ed1 ed2
          rw [HX0.out, Nat.zero_add] at cL0
          rw [HF.out.2.2.1, Nat.zero_add] at cL5
          rw [HF.out.1, Nat.zero_add] at cM0
          rw [HF.out.2.1, Nat.zero_add] at cM5
          have R17 := Lib.hid (R16.out.below hd)
          clear hd RL16 R16 M16 HL3
          go_wp2
          go_loop [34, 35] (fun s c => ∃ k : Nat, k ≤ 5 ∧ c = .int .i64 (k : Int) ∧ s = .int .i64 (lsT xs k).sum) (fun s c => 5 - (intOf c).toNat)
          case atStart => exact ⟨0, by omega, rfl, by simp [lsT]⟩
          case round =>
            obtain ⟨k, hk, rfl, rfl⟩ := hrel
            by_cases hlt2 : k < 5
            · obtain ⟨be, oe, ee, -, ck⟩ := Row.cell R17.out (show k < (lsT xs 5).length by rw [lsT_len]; omega)
              injection ee with ee; injection ee with ee1 ee2
              subst ee1 ee2
              rw [lsT_at hlt2, Nat.zero_add] at ck
              have HS := Lib.hid (show (lsT xs (k + 1)).sum = (lsT xs k).sum + lsF xs k by rw [lsT_snoc, List.sum_append]; simp)
              have s1 := lsT_sum xs k
              have s2 := HF.out.2.2.2.2 k (by omega)
              have s3 := HF.out.2.2.2.2 (k + 1) (by omega)
              have s4 : lsF xs k = xs.getD k 0 - xs.getD (k + 1) 0 := rfl
              rw [HX0.out] at s1
              have s5 : 0 ≤ (lsT xs k).sum ∧ (lsT xs k).sum ≤ 5000 := by omega
              have s6 : -5000 ≤ lsF xs k ∧ lsF xs k ≤ 5000 := by omega
              clear s1 s2 s3 s4
              generalize (lsT xs k).sum = S at *
              generalize lsF xs k = t at *
              have hkI : (k : Int) < 5 := by omega
              go_wp2
              go_round
              case rel => exact ⟨k + 1, by omega, by go_num, by rw [HS.out]⟩
              case measure => simp [intOf]; omega
            · obtain rfl : k = 5 := by omega
              rw [HF.out.2.2.2.1]
              have p1 : E ≤ X := e23
              have g1 : decide (E ≤ X) = true := decide_eq_true p1
              have g2 : decide (x5 ≤ z5) = true := decide_eq_true f7
              have g3 : decide (z5 ≤ q) = true := decide_eq_true f8
              have g4 : decide (ZA ≤ 3) = true := decide_eq_true hZ3
              have g5 : ((q - x5 : Int) == q - x5) = true := beq_self_eq_true _
              have g6 : (q == q) = true := beq_self_eq_true _
              have g7 : IntKind.i64.wrap (q - x5) = q - x5 := IntWalk.i64_in _ (by omega)
              have g8 : IntKind.i64.wrap (5 * MV) = 5 * MV := IntWalk.i64_in _ (by omega)
              have g9 : IntKind.i64.wrap (5 * MV - (q - x5)) = 5 * MV - (q - x5) := IntWalk.i64_in _ (by omega)
              go_wp2_with fail
              go_big_quiet ((go_at_call 19; exact Calls.quiet_of_same ((HAB.out _).mono fun _ _ h => ⟨h.1, h.2.symm⟩)))
              go_wp2
              go_ret
              exact ⟨by first | rfl | simp, below_drewN' HB17.out _⟩
    · have hMd : decide (0 < M) = false := decide_eq_false hM0
      obtain ⟨d0_11, d1_11, d2_11, d3_11⟩ := D11.out
      go_wp2_with fail
      (with_reducible refine (H9.out w11).mono ?_)
      rintro e w12 ⟨rfl, hd⟩
      clear d0_11 d1_11 d2_11 d3_11
      have HB12 := Lib.hid (HB11.out.trans (hd.mono HB11.out.size))
      have D12 := Lib.hid (D11.out.below hd D11.out.lt)
      clear hd
      obtain ⟨d0, d1, d2, d3⟩ := D12.out
      have hp12 : p < w12.heap.size := D12.out.lt
      have hpn12 : ¬ (p = w12.heap.size) := Nat.ne_of_lt hp12
      go_wp2_with fail
      clear d0 d1 d2 d3
      have HB13 := Lib.hid (HB12.out.alloc HB12.out.size (.cells #[.string s, .int .i64 L, .int .i64 j, .int .i64 lo] 25))
      generalize w12.alloc (.cells #[.string s, .int .i64 L, .int .i64 j, .int .i64 lo] 25) = w13 at *
      (with_reducible refine (H10.out w13).mono ?_)
      rintro e w14 ⟨rfl, hd⟩
      have HB14 := Lib.hid (HB13.out.trans (hd.mono HB13.out.size))
      clear hd
      go_wp2
      go_loopw [26, 27] (fun v c wr => ∃ (k : Nat) (xs : List Int), k ≤ 5 ∧ c = .int .i64 (k : Int) ∧ xs.length = k + 1 ∧ Hid (xs.getD 0 0 = q ∧ ∀ j : Nat, j < k → 0 ≤ xs.getD (j + 1) 0 ∧ xs.getD (j + 1) 0 ≤ xs.getD j 0) ∧ wr.ownsRow w14.heap.size 2 1 v (k + 1) (intsV xs) ∧ Below w14.heap.size w14 wr) (fun v c wr => 5 - (intOf c).toNat)
      case atStart => exact ⟨0, [q], by omega, rfl, rfl, Lib.hid ⟨rfl, fun j h => absurd h (by omega)⟩, World.ownsRow_lit w14 #[.int .i64 q] 1 (Nat.le_refl _) (by simp [maxLen]) rfl, below_box _ _⟩
      case round =>
        obtain ⟨k, xs, hk, rfl, hxl, HA, hout, hbel⟩ := hrel
        have hwz := hbel.size
        obtain ⟨gl, cl, rfl⟩ := own_posL hout (by omega)
        have HO := Lib.hid hout
        by_cases hlt : k < 5
        · obtain ⟨z, hz⟩ : ∃ z, xs.getD k 0 = z := ⟨_, rfl⟩
          have HZ := Lib.hid hz
          have hzb : 0 ≤ z ∧ z < 5000 := by
            have key : ∀ i : Nat, i ≤ k → 0 ≤ xs.getD i 0 ∧ xs.getD i 0 ≤ q := by
              intro i
              induction i with
              | zero => intro _; rw [HA.out.1]; omega
              | succ i ih =>
                intro hi2
                have a1 := ih (by omega)
                have a2 := HA.out.2 i (by omega)
                omega
            have := key k (Nat.le_refl _)
            omega
          have hcd : wr.drew.cell? ⟨gl, k, none⟩ = some (.int .i64 z) := by
            rw [← hz]
            exact (hout.cellAt k (by omega)).trans (by simp [intsV, List.getD, show k < xs.length by omega])
          obtain ⟨⟨hr1, hr2⟩, hR⟩ := HG.out k hlt
          have HR8 := Lib.hid hR
          clear hR hz
          generalize g k = r at *
          have hkI : (k : Int) < (k : Int) + 1 := by omega
          have hkl : (k : Int) < 5 := by omega
          have h0k : (0 : Int) ≤ (k : Int) := by omega
          have hwk : IntKind.i64.wrap (k : Int) = (k : Int) := IntWalk.i64_in _ (by omega)
          have hw2 : IntKind.i64.wrap (2 + (k : Int)) = 2 + (k : Int) := IntWalk.i64_in _ (by omega)
          have hws : IntKind.i64.wrap (z - r) = z - r := IntWalk.i64_in _ (by omega)
          clear hout
          have hmx : 0 ≤ max 0 (z - r) ∧ max 0 (z - r) ≤ z := by omega
          go_wp2_with fail
          refine wp_region_held (S := fun w' => Below w14.heap.size w14 w') (by kernel_rfl) ?_
          try (change wpAnyH _ _ _ _ _ _ _ _ (World.drew _))
          have hS0 := (show Below w14.heap.size w14 wr.drew from hbel.drew)
          refine gTake 0 (v := ?_) rfl (by kernel_rfl) (by kernel_rfl) (by kernel_rfl) (fun _ _ _ h => h) (by kernel_rfl) ?_ hS0 ?_
          rotate_left
          · (intro W hW; clear hW; go_simp; try with_reducible rfl)
          refine gTake 1 (v := ?_) rfl (by kernel_rfl) (by kernel_rfl) (by kernel_rfl) (fun _ _ _ h => h) (by kernel_rfl) ?_ hS0 ?_
          rotate_left
          · (intro W hW; clear hW; go_simp; try with_reducible rfl)
          refine gTake 2 (v := ?_) rfl (by kernel_rfl) (by kernel_rfl) (by kernel_rfl) (fun _ _ _ h => h) (by kernel_rfl) ?_ hS0 ?_
          rotate_left
          · (intro W hW; clear hW; go_simp; try with_reducible rfl)
          refine gTake 3 (v := ?_) rfl (by kernel_rfl) (by kernel_rfl) (by kernel_rfl) (fun _ _ _ h => h) (by kernel_rfl) ?_ hS0 ?_
          rotate_left
          · (intro W hW; clear hW; go_simp; try with_reducible rfl)
          refine gTake 5 (v := ?_) rfl (by kernel_rfl) (by kernel_rfl) (by kernel_rfl) (fun _ _ _ h => h) (by kernel_rfl) ?_ hS0 ?_
          rotate_left
          · (intro W hW; clear hW; go_simp; try with_reducible rfl)
          refine gTake 6 (v := ?_) rfl (by kernel_rfl) (by kernel_rfl) (by kernel_rfl) (fun _ _ _ h => h) (by kernel_rfl) ?_ hS0 ?_
          rotate_left
          · (intro W hW; clear hW; go_simp; try with_reducible rfl)
          refine gTake 7 (v := ?_) rfl (by kernel_rfl) (by kernel_rfl) (by kernel_rfl) (fun _ _ _ h => h) (by kernel_rfl) ?_ hS0 ?_
          rotate_left
          · (intro W hW; clear hW; go_simp; try with_reducible rfl)
          refine gTwo 4 8 rfl rfl (by kernel_rfl) (by kernel_rfl) (by kernel_rfl) (fun K hK => ?_) (fun K hK => ?_)
          · go_simp
            skip
            have hS1 := hS0
            refine hK _ _ hS1 ?_
            clear hK K
            refine gOne 8 rfl (by kernel_rfl) (by kernel_rfl) (fun K hK => ?_)
            go_simp
            go_at_call 15
            (with_reducible refine (HR8.out _ (HB14.out.trans ((hbel.drew).mono HB14.out.size))).mono ?_)
            rintro e w' ⟨rfl, rfl⟩
            try go_simp
            have hS2 := hS1
            refine hK _ _ hS2 ?_
            clear hK K
            refine gTake 9 (v := ?_) rfl (by kernel_rfl) (by kernel_rfl) (by kernel_rfl) (fun _ _ _ h => h) (by kernel_rfl) ?_ hS2 ?_
            rotate_left
            · (intro W hW; clear hW; go_simp; try with_reducible rfl)
            refine gTake 10 (v := ?_) rfl (by kernel_rfl) (by kernel_rfl) (by kernel_rfl) (fun _ _ _ h => h) (by kernel_rfl) ?_ hS2 ?_
            rotate_left
            · (intro W hW; clear hW; go_simp; try with_reducible rfl)
            refine gOne 11 rfl (by kernel_rfl) (by kernel_rfl) (fun K hK => ?_)
            go_simp
            skip
            have hS3 := (show Below w14.heap.size w14 (wr.drew.alloc (.cells #[.int .i64 (max 0 (z - r))] 2)) from (hbel.drew).alloc hwz _)
            refine hK _ _ hS3 ?_
            clear hK K
            refine gOne 12 rfl (by kernel_rfl) (by kernel_rfl) (fun K hK => ?_)
            refine gAppendOwn (.tmp 183) (.tmp 194) 35 rfl 2 i0 (.int .i64 0) 1 8 Tryz.underlying35 hi hz0 hz1 hz2 rfl (by decide) w14.heap.size (.slice (some ⟨gl, 0, none⟩) (k + 1) cl) (k + 1) (intsV xs) (by simp [Act.eval, Act.put]) (HO.out.alloc (.cells #[.int .i64 (max 0 (z - r))] 2)) ⟨wr.heap.size, 0, none⟩ 1 1 [.int .i64 (max 0 (z - r))] (by simp [Act.eval, Act.put]) rfl (fun j u hj => by match j, hj with | 0, hj => (simp at hj; subst hj; simp [Addr.add]) | j + 1, hj => (simp at hj)) (by simp [Value.oneCell']) (by unfold maxLen; omega) (by omega) (by simp; omega) ?_
            intro v' w3 ho3 hg3
            have HB3 : Below w14.heap.size w14 w3 := ((hbel.drew).alloc hwz _).grown hg3 (by simp; omega) (fun k hk => (HO.out.lt k hk).1)
            have hS4 := (show Below w14.heap.size w14 w3 from HB3)
            refine hK _ _ hS4 ?_
            clear hK K
            refine gTake 13 (v := ?_) rfl (by kernel_rfl) (by kernel_rfl) (by kernel_rfl) (fun _ _ _ h => h) (by kernel_rfl) ?_ hS4 ?_
            rotate_left
            · (intro W hW; clear hW; go_simp; try with_reducible rfl)
            refine wpAnyH_done (by kernel_rfl) ?_ _
            go_simp
            have HOO := Lib.hid ho3
            have HBB := Lib.hid HB3
            clear ho3 hg3 HB3
            go_wp2
            go_roundw
            case rel =>
              refine ⟨k + 1, xs ++ [(max 0 (z - r))], by omega, by go_num, by rw [List.length_append, hxl]; rfl, Lib.hid ⟨?_, ?_⟩, by simpa [intsV] using HOO.out, HBB.out⟩
              · rw [at_app (by omega)]; exact HA.out.1
              · intro j hj
                rcases Nat.lt_or_ge j k with h | h
                · rw [at_app (show j + 1 < xs.length by omega), at_app (show j < xs.length by omega)]; exact HA.out.2 j h
                · obtain rfl : j = k := by omega
                  rw [at_app2 (show j + 1 = xs.length by omega), at_app (show j < xs.length by omega), HZ.out]
                  omega
            case measure => simp [intOf]; omega
          · go_simp
            go_at_call 15
            (with_reducible refine (HR8.out _ (HB14.out.trans ((hbel.drew).mono HB14.out.size))).mono ?_)
            rintro e w' ⟨rfl, rfl⟩
            try go_simp
            have hS1 := hS0
            refine hK _ _ hS1 ?_
            clear hK K
            refine gOne 4 rfl (by kernel_rfl) (by kernel_rfl) (fun K hK => ?_)
            go_simp
            skip
            have hS2 := hS1
            refine hK _ _ hS2 ?_
            clear hK K
            refine gTake 9 (v := ?_) rfl (by kernel_rfl) (by kernel_rfl) (by kernel_rfl) (fun _ _ _ h => h) (by kernel_rfl) ?_ hS2 ?_
            rotate_left
            · (intro W hW; clear hW; go_simp; try with_reducible rfl)
            refine gTake 10 (v := ?_) rfl (by kernel_rfl) (by kernel_rfl) (by kernel_rfl) (fun _ _ _ h => h) (by kernel_rfl) ?_ hS2 ?_
            rotate_left
            · (intro W hW; clear hW; go_simp; try with_reducible rfl)
            refine gOne 11 rfl (by kernel_rfl) (by kernel_rfl) (fun K hK => ?_)
            go_simp
            skip
            have hS3 := (show Below w14.heap.size w14 (wr.drew.alloc (.cells #[.int .i64 (max 0 (z - r))] 2)) from (hbel.drew).alloc hwz _)
            refine hK _ _ hS3 ?_
            clear hK K
            refine gOne 12 rfl (by kernel_rfl) (by kernel_rfl) (fun K hK => ?_)
            refine gAppendOwn (.tmp 183) (.tmp 194) 35 rfl 2 i0 (.int .i64 0) 1 8 Tryz.underlying35 hi hz0 hz1 hz2 rfl (by decide) w14.heap.size (.slice (some ⟨gl, 0, none⟩) (k + 1) cl) (k + 1) (intsV xs) (by simp [Act.eval, Act.put]) (HO.out.alloc (.cells #[.int .i64 (max 0 (z - r))] 2)) ⟨wr.heap.size, 0, none⟩ 1 1 [.int .i64 (max 0 (z - r))] (by simp [Act.eval, Act.put]) rfl (fun j u hj => by match j, hj with | 0, hj => (simp at hj; subst hj; simp [Addr.add]) | j + 1, hj => (simp at hj)) (by simp [Value.oneCell']) (by unfold maxLen; omega) (by omega) (by simp; omega) ?_
            intro v' w3 ho3 hg3
            have HB3 : Below w14.heap.size w14 w3 := ((hbel.drew).alloc hwz _).grown hg3 (by simp; omega) (fun k hk => (HO.out.lt k hk).1)
            have hS4 := (show Below w14.heap.size w14 w3 from HB3)
            refine hK _ _ hS4 ?_
            clear hK K
            refine gTake 13 (v := ?_) rfl (by kernel_rfl) (by kernel_rfl) (by kernel_rfl) (fun _ _ _ h => h) (by kernel_rfl) ?_ hS4 ?_
            rotate_left
            · (intro W hW; clear hW; go_simp; try with_reducible rfl)
            refine wpAnyH_done (by kernel_rfl) ?_ _
            go_simp
            have HOO := Lib.hid ho3
            have HBB := Lib.hid HB3
            clear ho3 hg3 HB3
            go_wp2
            go_roundw
            case rel =>
              refine ⟨k + 1, xs ++ [(max 0 (z - r))], by omega, by go_num, by rw [List.length_append, hxl]; rfl, Lib.hid ⟨?_, ?_⟩, by simpa [intsV] using HOO.out, HBB.out⟩
              · rw [at_app (by omega)]; exact HA.out.1
              · intro j hj
                rcases Nat.lt_or_ge j k with h | h
                · rw [at_app (show j + 1 < xs.length by omega), at_app (show j < xs.length by omega)]; exact HA.out.2 j h
                · obtain rfl : j = k := by omega
                  rw [at_app2 (show j + 1 = xs.length by omega), at_app (show j < xs.length by omega), HZ.out]
                  omega
            case measure => simp [intOf]; omega
        · obtain rfl : k = 5 := by omega
          have hx6 : xs.length = 6 := hxl
          obtain ⟨K, rfl⟩ := Int.eq_ofNat_of_zero_le hm1
          obtain ⟨f1, ⟨f2, f3⟩, ⟨f4, f5⟩, ⟨f6, f7, f8⟩, ⟨f9, f10⟩, f11, f12⟩ := leak_flows (k := K) hx6 HA.out.1 hq2 HA.out.2 hq1 (by omega)
          have key : ∀ i : Nat, i ≤ 5 → 0 ≤ xs.getD i 0 ∧ xs.getD i 0 ≤ q := by
            intro i
            induction i with
            | zero => intro _; rw [HA.out.1]; omega
            | succ i ih =>
              intro hi2
              have a1 := ih (by omega)
              have a2 := HA.out.2 i (by omega)
              omega
          have RL := Lib.hid (show Row .i64 wr (.slice (some ⟨gl, 0, none⟩) (5 + 1) cl) xs from Row.of_own hout)
          have HX0 := Lib.hid HA.out.1
          have HL1 := Lib.hid (fun W (hv : Row .i64 W (.slice (some ⟨gl, 0, none⟩) (5 + 1) cl) xs) => iLossesOf_any _ xs W hv (by omega))
          have HL2 := Lib.hid (fun W (hv : Row .i64 W (.slice (some ⟨gl, 0, none⟩) (5 + 1) cl) xs) => iMendJoint_any _ xs (K : Int) W hv (by omega))
          have HL3 := Lib.hid (fun W (hv : Row .i64 W (.slice (some ⟨gl, 0, none⟩) (5 + 1) cl) xs) => iMeanLoss_any _ xs W hv (by omega))
          rw [f1, f2] at HL1
          rw [f4, f5] at HL2
          rw [f9, f10] at HL3
          obtain ⟨x5, hx5⟩ : ∃ x, xs.getD 5 0 = x := ⟨_, rfl⟩
          obtain ⟨z5, hz5⟩ : ∃ x, (mjT xs K 6).getD 5 0 = x := ⟨_, rfl⟩
          rw [hx5] at f3 f7 f11 f12 HL3
          rw [hz5] at f7 f8
          obtain ⟨MV, hMV⟩ : ∃ x, divR (q - x5) 5 = x := ⟨_, rfl⟩
          rw [hMV] at HL3
          obtain ⟨hn1, hn2⟩ := mean_near (s := q - x5) (by omega) hMV
          have HF := Lib.hid (And.intro f6 (And.intro hz5 (And.intro hx5 (And.intro f3 key))))
          have HAB := Lib.hid (fun W => r8AbsL_any (5 * MV - (q - x5)) W (by omega))
          obtain ⟨ZA, hZA⟩ : ∃ x, absL (5 * MV - (q - x5)) = x := ⟨_, rfl⟩
          have hZ3 : ZA ≤ 3 := by rw [← hZA]; unfold absL; split <;> omega
          rw [hZA] at HAB
          have HB15a := Lib.hid (HB14.out.trans (hbel.mono HB14.out.size))
          clear f1 f2 f3 f4 f5 f6 f9 f10 hz5 hx5 hMV hZA key hout hbel hwz HO HA hxl
          go_wp2_with fail
          (with_reducible refine (HL1.out wr RL.out).mono ?_)
          rintro e w15 ⟨v1, rfl, ho1, hd⟩
          unfold OwnI at ho1
          rw [lsT_len] at ho1
          obtain ⟨g1, cg1, rfl⟩ := own_posL ho1 (by omega)
          have HB15 := Lib.hid (HB15a.out.trans (hd.mono HB15a.out.size))
          have RL15 := Lib.hid (RL.out.below hd)
          have R15 := Lib.hid (show Row .i64 w15 (.slice (some ⟨g1, 0, none⟩) 5 cg1) (lsT xs 5) from Row.of_own ho1)
          clear hd ho1 RL HL1
          go_wp2_with fail
          (with_reducible refine (HMK.out w15 HB15.out).mono ?_)
          rintro e w' ⟨rfl, rfl⟩
          go_wp2_with fail
          (with_reducible refine (HL2.out w15 RL15.out).mono ?_)
          rintro e w16 ⟨v2, rfl, ho2, hd⟩
          unfold OwnI at ho2
          rw [mjT_len] at ho2
          obtain ⟨g2, cg2, rfl⟩ := own_posL ho2 (by omega)
          have HB16 := Lib.hid (HB15.out.trans (hd.mono HB15.out.size))
          have RL16 := Lib.hid (RL15.out.below hd)
          have R16 := Lib.hid (R15.out.below hd)
          have M16 := Lib.hid (show Row .i64 w16 (.slice (some ⟨g2, 0, none⟩) 6 cg2) (mjT xs K 6) from Row.of_own ho2)
          clear hd ho2 RL15 R15 HL2
          go_wp2_with fail
          (with_reducible refine (HL3.out w16 RL16.out).mono ?_)
          rintro e w17 ⟨rfl, hd⟩
          have HB17 := Lib.hid (HB16.out.trans (hd.mono HB16.out.size))
          obtain ⟨ba, oa, ea, -, cL0⟩ := Row.cell (RL16.out.below hd) (show 0 < xs.length by omega)
          obtain ⟨bb, ob, eb, -, cL5⟩ := Row.cell (RL16.out.below hd) (show 5 < xs.length by omega)
          injection ea with ea; injection ea with ea1 ea2
          injection eb with eb; injection eb with eb1 eb2
          subst ea1 ea2 eb1 eb2
          obtain ⟨bc, oc, ec, -, cM0⟩ := Row.cell (M16.out.below hd) (show 0 < (mjT xs K 6).length by rw [mjT_len]; omega)
          obtain ⟨bd, od, ed, -, cM5⟩ := Row.cell (M16.out.below hd) (show 5 < (mjT xs K 6).length by rw [mjT_len]; omega)
          injection ec with ec; injection ec with ec1 ec2
          injection ed with ed; injection ed with ed1 ed2
          subst ec1 ec2 ed1 ed2
          rw [HX0.out, Nat.zero_add] at cL0
          rw [HF.out.2.2.1, Nat.zero_add] at cL5
          rw [HF.out.1, Nat.zero_add] at cM0
          rw [HF.out.2.1, Nat.zero_add] at cM5
          have R17 := Lib.hid (R16.out.below hd)
          clear hd RL16 R16 M16 HL3
          go_wp2
          go_loop [34, 35] (fun s c => ∃ k : Nat, k ≤ 5 ∧ c = .int .i64 (k : Int) ∧ s = .int .i64 (lsT xs k).sum) (fun s c => 5 - (intOf c).toNat)
          case atStart => exact ⟨0, by omega, rfl, by simp [lsT]⟩
          case round =>
            obtain ⟨k, hk, rfl, rfl⟩ := hrel
            by_cases hlt2 : k < 5
            · obtain ⟨be, oe, ee, -, ck⟩ := Row.cell R17.out (show k < (lsT xs 5).length by rw [lsT_len]; omega)
              injection ee with ee; injection ee with ee1 ee2
              subst ee1 ee2
              rw [lsT_at hlt2, Nat.zero_add] at ck
              have HS := Lib.hid (show (lsT xs (k + 1)).sum = (lsT xs k).sum + lsF xs k by rw [lsT_snoc, List.sum_append]; simp)
              have s1 := lsT_sum xs k
              have s2 := HF.out.2.2.2.2 k (by omega)
              have s3 := HF.out.2.2.2.2 (k + 1) (by omega)
              have s4 : lsF xs k = xs.getD k 0 - xs.getD (k + 1) 0 := rfl
              rw [HX0.out] at s1
              have s5 : 0 ≤ (lsT xs k).sum ∧ (lsT xs k).sum ≤ 5000 := by omega
              have s6 : -5000 ≤ lsF xs k ∧ lsF xs k ≤ 5000 := by omega
              clear s1 s2 s3 s4
              generalize (lsT xs k).sum = S at *
              generalize lsF xs k = t at *
              have hkI : (k : Int) < 5 := by omega
              go_wp2
              go_round
              case rel => exact ⟨k + 1, by omega, by go_num, by rw [HS.out]⟩
              case measure => simp [intOf]; omega
            · obtain rfl : k = 5 := by omega
              rw [HF.out.2.2.2.1]
              have p1 : E ≤ X := e23
              have g1 : decide (E ≤ X) = true := decide_eq_true p1
              have g2 : decide (x5 ≤ z5) = true := decide_eq_true f7
              have g3 : decide (z5 ≤ q) = true := decide_eq_true f8
              have g4 : decide (ZA ≤ 3) = true := decide_eq_true hZ3
              have g5 : ((q - x5 : Int) == q - x5) = true := beq_self_eq_true _
              have g6 : (q == q) = true := beq_self_eq_true _
              have g7 : IntKind.i64.wrap (q - x5) = q - x5 := IntWalk.i64_in _ (by omega)
              have g8 : IntKind.i64.wrap (5 * MV) = 5 * MV := IntWalk.i64_in _ (by omega)
              have g9 : IntKind.i64.wrap (5 * MV - (q - x5)) = 5 * MV - (q - x5) := IntWalk.i64_in _ (by omega)
              go_wp2_with fail
              go_big_quiet ((go_at_call 19; exact Calls.quiet_of_same ((HAB.out _).mono fun _ _ h => ⟨h.1, h.2.symm⟩)))
              go_wp2
              go_ret
              exact ⟨by first | rfl | simp, below_drewN' HB17.out _⟩
end Go.Proofs.YtoojndohddellaaGreatDoor
