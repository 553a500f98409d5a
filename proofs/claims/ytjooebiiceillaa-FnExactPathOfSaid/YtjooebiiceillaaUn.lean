/-
  PathOf, the model's and the program's. Conditions: those that each theorem states.
-/
import Derived.Test.YtjooebiiceillaaUm
import Derived.Test.YtjooebiiceillaaQb
namespace Go.Proofs.Ytjooebiiceillaa
open Go.RowKit
set_option linter.unusedVariables false
set_option linter.unusedSimpArgs false

/-- What PathOf returns. -/
def pathB (J : Int) (xs : List Aw) (x y : Int) : Int := if mineOk J xs then (if inB x 0 (J - 1) && inB y 0 (J - 1) then (if 0 ≤ levD J.toNat xs (allI xs.length) y x then 0 else 3) else 2) else 1
def pathR (J : Int) (xs : List Aw) (x y : Int) : List Int := if mineOk J xs && (inB x 0 (J - 1) && inB y 0 (J - 1)) then wlkR J.toNat xs (allI xs.length) x y else []
theorem wlkR_len (Jn : Nat) (xs : List Aw) (ls : List Int) (x y : Int) : (wlkR Jn xs ls x y).length ≤ Jn := by
  unfold wlkR
  split
  · have h1 := pathN_len (endsOf xs) (levD Jn xs ls y) ls (levD Jn xs ls y x).toNat x
    have h2 := levD_bd Jn xs ls y x
    omega
  · simp
theorem pathR_len (J : Int) (xs : List Aw) (x y : Int) : (pathR J xs x y).length ≤ 16 := by
  unfold pathR
  split
  · rename_i h
    rw [Bool.and_eq_true] at h
    have h1 := (mineOk_iff.1 h.1).1
    have h2 := wlkR_len J.toNat xs (allI xs.length) x y
    omega
  · simp
theorem atTo_opn (xs : List Aw) (x : Int) : ∀ k, atTo xs x k = ixT (fun (j : Nat) => !(decide ((j : Int) = -1)) && endK xs x j) k
  | 0 => rfl
  | k + 1 => by
    have h1 : (!(decide ((k : Int) = -1))) = true := by rw [decide_eq_false (by omega)]; rfl
    have h2 : endB (xs.getD k Aw.none).f (xs.getD k Aw.none).t x = endK xs x k := by unfold endB endK; rw [Bool.eq_iff_iff]; simp
    rw [atTo, ixT, h1, h2, Bool.true_and, atTo_opn xs x k]
theorem openAll_any (J x : Int) (A : Option Addr) (cap : Nat) (xs : List Aw) (w : World) (hn : xs.length ≤ 1048576) (hr : AwR w A xs) :
    Calls Try.prog 121 #[.agg #[.int .i64 J, .slice A xs.length cap, (.map none)], .int .i64 x] w fun e w' => ∃ v, e = .returned v ∧ OwnI w' w.heap.size v (opnL xs (fun (k : Nat) => !(decide ((k : Int) = -1))) x) ∧ Below w.heap.size w w' := by
  have h := openAt_any J x A cap xs w hn hr
  rw [atTo_opn] at h
  exact h
theorem inB_nat {x : Int} {Jn : Nat} (h : inB x 0 ((Jn : Int) - 1) = true) : ∃ n : Nat, x = n ∧ n < Jn := ⟨x.toNat, by have := inB_iff.1 h; omega, by have := inB_iff.1 h; omega⟩
theorem ret_vN {v : Value} {b b' : Int} (h : b = b') : Ending.returned (.tuple #[v, .int .i64 b]) = .returned (.tuple #[v, .int .i64 b']) := by rw [h]
set_option maxHeartbeats 2000000 in
set_option maxRecDepth 100000 in
theorem sPathOf_any (J x y : Int) (A : Option Addr) (cap : Nat) (xs : List Aw) (w : World) (hr : AwR w A xs) (hs : ∀ a ∈ xs, a.s.size ≤ maxLen) (hl : xs.length ≤ 1048576) :
    Calls Try.prog 46 #[.agg #[.int .i64 J, .slice A xs.length cap], .int .i64 x, .int .i64 y] w fun e w' => ∃ v, e = .returned (.tuple #[v, .int .i64 (pathB J xs x y)]) ∧ OwnI w' w.heap.size v (pathR J xs x y) ∧ Below w.heap.size w w' := by
  have HB0 := Lib.hid (below_box w (.cells #[.int .i64 J, .slice A xs.length cap] 36))
  have HOKC := Lib.hid (l04Ok_any w.heap.size J A cap xs (w.alloc (.cells #[.int .i64 J, .slice A xs.length cap] 36)) (by simp) (by simp) (hr.below HB0.out) hs hl)
  have HK := Lib.hid (show (w.alloc (.cells #[.int .i64 J, .slice A xs.length cap] 36)).cell? ⟨w.heap.size, 0, none⟩ = some (.int .i64 J) ∧ (w.alloc (.cells #[.int .i64 J, .slice A xs.length cap] 36)).cell? ⟨w.heap.size, 1, none⟩ = some (.slice A xs.length cap) ∧ AwR (w.alloc (.cells #[.int .i64 J, .slice A xs.length cap] 36)) A xs from ⟨by simp, by simp, hr.below HB0.out⟩)
  clear hr hs
  cases hok : mineOk J xs
  · have HE := Lib.hid (show pathB J xs x y = 1 ∧ pathR J xs x y = [] by simp [pathB, pathR, hok])
    go_enter Try.func46, Try.ntmps46
    go_wp2_with fail
    (with_reducible refine (HOKC.out).mono ?_)
    rintro e w1 ⟨rfl, n, rfl⟩
    rw [hok]
    have HK1 := Lib.hid (show ((w.alloc (.cells #[.int .i64 J, .slice A xs.length cap] 36)).drewN n).cell? ⟨w.heap.size, 0, none⟩ = some (.int .i64 J) ∧ ((w.alloc (.cells #[.int .i64 J, .slice A xs.length cap] 36)).drewN n).cell? ⟨w.heap.size, 1, none⟩ = some (.slice A xs.length cap) ∧ AwR ((w.alloc (.cells #[.int .i64 J, .slice A xs.length cap] 36)).drewN n) A xs from HK.out)
    have HB1 := Lib.hid (show Below w.heap.size w ((w.alloc (.cells #[.int .i64 J, .slice A xs.length cap] 36)).drewN n) from below_drewN' HB0.out n)
    generalize (w.alloc (.cells #[.int .i64 J, .slice A xs.length cap] 36)).drewN n = W1 at *
    go_wp2
    go_ret2
    exact ⟨_, ret_vN HE.out.1.symm, by rw [HE.out.2]; exact own_nil _ _, HB1.out⟩
  · obtain ⟨hj, -, h24⟩ := mineOk_iff.1 hok
    obtain ⟨Jn, rfl⟩ : ∃ Jn : Nat, J = Jn := ⟨J.toNat, by omega⟩
    have HOK := Lib.hid hok
    have HEQ := Lib.hid (show pathB (Jn : Int) xs x y = (if inB x 0 ((Jn : Int) - 1) && inB y 0 ((Jn : Int) - 1) then (if 0 ≤ levD Jn xs (allI xs.length) y x then 0 else 3) else 2) ∧ pathR (Jn : Int) xs x y = (if inB x 0 ((Jn : Int) - 1) && inB y 0 ((Jn : Int) - 1) then wlkR Jn xs (allI xs.length) x y else []) by simp [pathB, pathR, hok])
    have HAL := Lib.hid (And.intro (allI_mem xs.length) (show (allI xs.length).length ≤ 1000 by rw [allI_len]; omega))
    go_enter Try.func46, Try.ntmps46
    go_wp2_with fail
    (with_reducible refine (HOKC.out).mono ?_)
    rintro e w1 ⟨rfl, n, rfl⟩
    rw [hok]
    have HK1 := Lib.hid (show ((w.alloc (.cells #[.int .i64 (Jn : Int), .slice A xs.length cap] 36)).drewN n).cell? ⟨w.heap.size, 0, none⟩ = some (.int .i64 (Jn : Int)) ∧ ((w.alloc (.cells #[.int .i64 (Jn : Int), .slice A xs.length cap] 36)).drewN n).cell? ⟨w.heap.size, 1, none⟩ = some (.slice A xs.length cap) ∧ AwR ((w.alloc (.cells #[.int .i64 (Jn : Int), .slice A xs.length cap] 36)).drewN n) A xs from HK.out)
    have HB1 := Lib.hid (show Below w.heap.size w ((w.alloc (.cells #[.int .i64 (Jn : Int), .slice A xs.length cap] 36)).drewN n) from below_drewN' HB0.out n)
    generalize (w.alloc (.cells #[.int .i64 (Jn : Int), .slice A xs.length cap] 36)).drewN n = W1 at *
    cases hx : inB x 0 ((Jn : Int) - 1)
    · have HE := Lib.hid (show pathB (Jn : Int) xs x y = 2 ∧ pathR (Jn : Int) xs x y = [] by rw [HEQ.out.1, HEQ.out.2]; simp [hx])
      go_wp2_with fail
      (with_reducible refine (l04Junction_any w.heap.size (Jn : Int) x _ HK1.out.1 hj).mono ?_)
      rw [hx]
      rintro e w' ⟨rfl, rfl⟩
      go_wp2
      go_ret2
      exact ⟨_, ret_vN HE.out.1.symm, by rw [HE.out.2]; exact own_nil _ _, HB1.out⟩
    · cases hy : inB y 0 ((Jn : Int) - 1)
      · have HE := Lib.hid (show pathB (Jn : Int) xs x y = 2 ∧ pathR (Jn : Int) xs x y = [] by rw [HEQ.out.1, HEQ.out.2]; simp [hy])
        go_wp2_with fail
        (with_reducible refine (l04Junction_any w.heap.size (Jn : Int) x _ HK1.out.1 hj).mono ?_)
        rw [hx]
        rintro e w' ⟨rfl, rfl⟩
        go_wp2_with fail
        (with_reducible refine (l04Junction_any w.heap.size (Jn : Int) y _ HK1.out.1 hj).mono ?_)
        rw [hy]
        rintro e w' ⟨rfl, rfl⟩
        go_wp2
        go_ret2
        exact ⟨_, ret_vN HE.out.1.symm, by rw [HE.out.2]; exact own_nil _ _, HB1.out⟩
      · obtain ⟨fr, rfl, hfr⟩ := inB_nat hx
        obtain ⟨to, rfl, hto⟩ := inB_nat hy
        have HE := Lib.hid (show pathB (Jn : Int) xs fr to = (if 0 ≤ levD Jn xs (allI xs.length) to fr then 0 else 3) ∧ pathR (Jn : Int) xs fr to = wlkR Jn xs (allI xs.length) fr to by rw [HEQ.out.1, HEQ.out.2]; simp [hx, hy])
        have hw1 : w.heap.size < W1.heap.size := World.block_lt_of_cell? _ _ HK1.out.1
        go_wp2_with fail
        (with_reducible refine (l04Junction_any w.heap.size (Jn : Int) (fr : Int) _ HK1.out.1 hj).mono ?_)
        rw [hx]
        rintro e w' ⟨rfl, rfl⟩
        go_wp2_with fail
        (with_reducible refine (l04Junction_any w.heap.size (Jn : Int) (to : Int) _ HK1.out.1 hj).mono ?_)
        rw [hy]
        rintro e w' ⟨rfl, rfl⟩
        go_wp2_with fail
        (with_reducible refine (l04All_any w.heap.size xs.length cap A (-1) _ HK1.out.2.1 (by omega)).mono ?_)
        rintro e w2 ⟨u, rfl, ho, hd2⟩
        have HO2 := Lib.hid (show OwnI w2 W1.heap.size u (allI xs.length) from ho)
        have HB2 := Lib.hid hd2
        clear ho hd2
        go_wp2_with fail
        (with_reducible refine (l04Walk_any w.heap.size cap Jn A xs _ (allI xs.length) fr to _ ((HB2.out.cell (p := ⟨w.heap.size, 0, none⟩) hw1).trans HK1.out.1) ((HB2.out.cell (p := ⟨w.heap.size, 1, none⟩) hw1).trans HK1.out.2.1) (HK1.out.2.2.below HB2.out) (RowW.of_ownI HO2.out) HAL.out.1 HAL.out.2 HOK.out (by omega) (by omega)).mono ?_)
        rintro e w3 ⟨u3, rfl, ho, hd3⟩
        have HO3 := Lib.hid ho
        have HB3 := Lib.hid (HB1.out.trans ((HB2.out.trans (hd3.mono HB2.out.size)).mono HB1.out.size))
        have hz2 := HB2.out.size
        clear ho hd3
        by_cases h0 : 0 ≤ levD Jn xs (allI xs.length) to fr
        · rw [if_pos h0] at HE
          have hd : decide (0 ≤ levD Jn xs (allI xs.length) to fr) = true := decide_eq_true h0
          rw [hd]
          go_wp2
          go_ret2
          exact ⟨_, ret_vN HE.out.1.symm, by rw [HE.out.2]; exact own_leW HO3.out (by omega), HB3.out⟩
        · rw [if_neg h0] at HE
          have hd : decide (0 ≤ levD Jn xs (allI xs.length) to fr) = false := decide_eq_false h0
          have hnil : wlkR Jn xs (allI xs.length) fr to = [] := by unfold wlkR; rw [if_neg h0]
          rw [hd]
          go_wp2
          go_ret2
          exact ⟨_, ret_vN HE.out.1.symm, by rw [HE.out.2, hnil]; exact own_nil _ _, HB3.out⟩
set_option maxHeartbeats 2000000 in
set_option maxRecDepth 100000 in
theorem iPathOf_any (J x y : Int) (A : Option Addr) (cap : Nat) (xs : List Aw) (w : World) (hr : AwR w A xs) (hs : ∀ a ∈ xs, a.s.size ≤ maxLen) (hl : xs.length ≤ 1048576) :
    Calls Try.prog 47 #[.agg #[.int .i64 J, .slice A xs.length cap], .int .i64 x, .int .i64 y] w fun e w' => ∃ v, e = .returned (.tuple #[v, .int .i64 (pathB J xs x y)]) ∧ OwnI w' w.heap.size v (pathR J xs x y) ∧ Below w.heap.size w w' := by
  have HB0 := Lib.hid (below_box w (.cells #[.int .i64 J, .slice A xs.length cap] 36))
  have HR0 := Lib.hid (hr.below HB0.out)
  have HV := Lib.hid (iValidMine_any J A cap xs (w.alloc (.cells #[.int .i64 J, .slice A xs.length cap] 36)) HR0.out hs hl)
  clear hr hs
  cases hok : mineOk J xs
  · have HE := Lib.hid (show pathB J xs x y = 1 ∧ pathR J xs x y = [] by simp [pathB, pathR, hok])
    rw [hok] at HV
    go_enter Try.func47, Try.ntmps47
    go_wp2_with fail
    (with_reducible refine (HV.out).mono ?_)
    rintro e w1 ⟨rfl, hb⟩
    go_wp2
    go_ret2
    exact ⟨_, ret_vN HE.out.1.symm, by rw [HE.out.2]; exact own_nil _ _, HB0.out.trans (hb.mono (by simp))⟩
  · obtain ⟨hj, -, h24⟩ := mineOk_iff.1 hok
    rw [hok] at HV
    obtain ⟨Jn, rfl⟩ : ∃ Jn : Nat, J = Jn := ⟨J.toNat, by omega⟩
    have HOK := Lib.hid hok
    have HEQ := Lib.hid (show pathB (Jn : Int) xs x y = (if inB x 0 ((Jn : Int) - 1) && inB y 0 ((Jn : Int) - 1) then (if 0 ≤ levD Jn xs (allI xs.length) y x then 0 else 3) else 2) ∧ pathR (Jn : Int) xs x y = (if inB x 0 ((Jn : Int) - 1) && inB y 0 ((Jn : Int) - 1) then wlkR Jn xs (allI xs.length) x y else []) by simp [pathB, pathR, hok])
    clear hok
    cases hxy : inB x 0 ((Jn : Int) - 1) && inB y 0 ((Jn : Int) - 1)
    · have HE := Lib.hid (show pathB (Jn : Int) xs x y = 2 ∧ pathR (Jn : Int) xs x y = [] by rw [HEQ.out.1, HEQ.out.2]; simp [hxy])
      go_enter Try.func47, Try.ntmps47
      go_wp2_with fail
      (with_reducible refine (HV.out).mono ?_)
      rintro e w1 ⟨rfl, hb⟩
      have HB1 := Lib.hid (HB0.out.trans (hb.mono (by simp)))
      have HR1 := Lib.hid (HR0.out.below hb)
      obtain ⟨hc1, hf1⟩ := bcell hb
      have hz1 : w.heap.size < w1.heap.size := Nat.lt_of_lt_of_le (by simp) hb.size
      clear hb
      have HRW := Lib.hid (show Row .i64 (w1.alloc (.cells #[.int .i64 x, .int .i64 y] 2)) (.slice (some ⟨w1.heap.size, 0, none⟩) 2 2) [x, y] from row_alloc .i64 w1 [x, y] 2 2)
      go_wp2_with fail
      (with_reducible refine (hasJunctions_two (Jn : Int) A xs.length cap x y _ hj _ HRW.out).mono ?_)
      rw [hxy]
      rintro e w2 ⟨rfl, hb2⟩
      have HB2 := Lib.hid (below_w (HB1.out.alloc HB1.out.size (.cells #[.int .i64 x, .int .i64 y] 2)) hb2)
      clear hb2
      go_wp2
      go_ret2
      exact ⟨_, ret_vN HE.out.1.symm, by rw [HE.out.2]; exact own_nil _ _, HB2.out⟩
    · have hxy2 := Bool.and_eq_true _ _ ▸ hxy
      obtain ⟨fr, rfl, hfr⟩ := inB_nat hxy2.1
      obtain ⟨to, rfl, hto⟩ := inB_nat hxy2.2
      have HE := Lib.hid (show pathB (Jn : Int) xs fr to = (if 0 ≤ levD Jn xs (allI xs.length) to fr then 0 else 3) ∧ pathR (Jn : Int) xs fr to = wlkR Jn xs (allI xs.length) fr to by rw [HEQ.out.1, HEQ.out.2, hxy]; simp)
      go_enter Try.func47, Try.ntmps47
      go_wp2_with fail
      (with_reducible refine (HV.out).mono ?_)
      rintro e w1 ⟨rfl, hb⟩
      have HB1 := Lib.hid (HB0.out.trans (hb.mono (by simp)))
      have HR1 := Lib.hid (HR0.out.below hb)
      obtain ⟨hc1, hf1⟩ := bcell hb
      have hz1 : w.heap.size < w1.heap.size := Nat.lt_of_lt_of_le (by simp) hb.size
      clear hb
      have HRW := Lib.hid (show Row .i64 (w1.alloc (.cells #[.int .i64 (fr : Int), .int .i64 (to : Int)] 2)) (.slice (some ⟨w1.heap.size, 0, none⟩) 2 2) [(fr : Int), (to : Int)] from row_alloc .i64 w1 [(fr : Int), (to : Int)] 2 2)
      go_wp2_with fail
      (with_reducible refine (hasJunctions_two (Jn : Int) A xs.length cap (fr : Int) (to : Int) _ hj _ HRW.out).mono ?_)
      rw [hxy]
      rintro e w2 ⟨rfl, hb2⟩
      have HB2 := Lib.hid (below_w (HB1.out.alloc HB1.out.size (.cells #[.int .i64 (fr : Int), .int .i64 (to : Int)] 2)) hb2)
      have HR2 := Lib.hid ((HR1.out.below (below_box _ _)).below hb2)
      obtain ⟨hc2, hf2⟩ := bcell hb2
      have hz2 : w.heap.size < w2.heap.size := Nat.lt_of_lt_of_le (by simp <;> omega) hb2.size
      have hz3 : w.heap.size < w1.heap.size + 1 := by omega
      have hn1 : ¬ (w.heap.size = w1.heap.size) := by omega
      clear hb2
      go_wp2_with fail
      (with_reducible refine (path_any (fun (k : Nat) => !(decide ((k : Int) = -1))) Jn A cap (.map none) xs fr to _ HR2.out HOK.out hfr hto rfl (fun W z _ hb => openAll_any (Jn : Int) z A cap xs W hl (HR2.out.below hb))).mono ?_)
      rintro e w3 ⟨v, rfl, ho, hb3⟩
      have HO := Lib.hid (show OwnI w3 w2.heap.size v (wlkR Jn xs (allI xs.length) fr to) from ho)
      have HB3 := Lib.hid (below_w HB2.out hb3)
      have hz4 := HB2.out.size
      clear ho hb3
      by_cases h0 : 0 ≤ levD Jn xs (allI xs.length) to fr
      · rw [if_pos h0] at HE
        have hd : decide (0 ≤ levD Jn xs (ixT (fun (k : Nat) => !(decide ((k : Int) = -1))) xs.length) to fr) = true := decide_eq_true h0
        rw [hd]
        go_wp2
        go_ret2
        exact ⟨_, ret_vN HE.out.1.symm, by rw [HE.out.2]; exact own_leW HO.out (by omega), HB3.out⟩
      · rw [if_neg h0] at HE
        have hd : decide (0 ≤ levD Jn xs (ixT (fun (k : Nat) => !(decide ((k : Int) = -1))) xs.length) to fr) = false := decide_eq_false h0
        have hnil : wlkR Jn xs (allI xs.length) fr to = [] := by unfold wlkR; rw [if_neg h0]
        rw [hd]
        go_wp2
        go_ret2
        exact ⟨_, ret_vN HE.out.1.symm, by rw [HE.out.2, hnil]; exact own_nil _ _, HB3.out⟩
end Go.Proofs.Ytjooebiiceillaa
