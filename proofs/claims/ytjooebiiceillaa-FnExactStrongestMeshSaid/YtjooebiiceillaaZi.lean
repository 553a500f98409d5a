/-
  Contracts of chapter 9: walks of a mine, sums along walks; the model's and the program's. Conditions: those that each theorem states.
-/
import Derived.Test.YtjooebiiceillaaZg
namespace Go.Proofs.Ytjooebiiceillaa
open Go.RowKit
set_option linter.unusedVariables false
set_option linter.unusedSimpArgs false

/-- The junction at which a step begins. -/
def sfI (xs : List Aw) (z : Int) : Int := if 0 < z then (xs.getD (z - 1).toNat Aw.none).f else (xs.getD (-z - 1).toNat Aw.none).t
/-- A step is one of the mine, and begins where the one before it ends. -/
def stpB (xs : List Aw) (zs : List Int) (j : Nat) : Bool := decide (zs.getD j 0 ≠ 0) && inB (zs.getD j 0) (-(xs.length : Int)) xs.length && (decide (j = 0) || decide (sfI xs (zs.getD j 0) = sfI xs (-(zs.getD (j - 1) 0))))
def wkR (xs : List Aw) (zs : List Int) : Bool := (List.range zs.length).all (stpB xs zs)
theorem wkR_iff {xs : List Aw} {zs : List Int} : wkR xs zs = true ↔ ∀ j : Nat, j < zs.length → stpB xs zs j = true := by
  unfold wkR
  rw [List.all_eq_true]
  exact ⟨fun h j hj => h j (List.mem_range.2 hj), fun h j hj => h j (List.mem_range.1 hj)⟩
theorem wkR_no {xs : List Aw} {zs : List Int} {j : Nat} (hj : j < zs.length) (h : stpB xs zs j = false) : wkR xs zs = false := by
  rw [← Bool.not_eq_true, wkR_iff]
  intro hh
  rw [hh j hj] at h
  cases h
theorem stp_zero {xs : List Aw} {zs : List Int} {j : Nat} (h : zs.getD j 0 = 0) : stpB xs zs j = false := by
  unfold stpB; rw [h]; simp
theorem stp_out {xs : List Aw} {zs : List Int} {j : Nat} (h : ¬ (-(xs.length : Int) ≤ zs.getD j 0 ∧ zs.getD j 0 ≤ xs.length)) : stpB xs zs j = false := by
  unfold stpB; rw [inB_false h]; simp
theorem stp_off {xs : List Aw} {zs : List Int} {p : Nat} (h : ¬ sfI xs (zs.getD (p + 1) 0) = sfI xs (-(zs.getD p 0))) : stpB xs zs (p + 1) = false := by
  unfold stpB
  rw [show p + 1 - 1 = p by omega, decide_eq_false h]
  simp
theorem stp_yes {xs : List Aw} {zs : List Int} {j : Nat} (h0 : zs.getD j 0 ≠ 0) (h1 : -(xs.length : Int) ≤ zs.getD j 0 ∧ zs.getD j 0 ≤ xs.length) (h2 : ∀ p : Nat, j = p + 1 → sfI xs (zs.getD j 0) = sfI xs (-(zs.getD p 0))) : stpB xs zs j = true := by
  unfold stpB
  rw [decide_eq_true h0, inB_true h1.1 h1.2]
  cases j with
  | zero => simp
  | succ p =>
    rw [show p + 1 - 1 = p by omega, decide_eq_true (h2 p rfl)]
    simp
theorem stp_parts {xs : List Aw} {zs : List Int} {j : Nat} (h : stpB xs zs j = true) : zs.getD j 0 ≠ 0 ∧ -(xs.length : Int) ≤ zs.getD j 0 ∧ zs.getD j 0 ≤ xs.length := by
  unfold stpB at h
  simp only [Bool.and_eq_true, decide_eq_true_eq, inB_iff] at h
  exact ⟨h.1.1, h.1.2.1, h.1.2.2⟩
/-- The airway of a step. -/
theorem step_aw {n : Nat} {z : Int} (h0 : z ≠ 0) (h1 : -(n : Int) ≤ z ∧ z ≤ n) : ∃ q : Nat, q < n ∧ absR z = (q : Int) + 1 ∧ ((0 < z ∧ z = (q : Int) + 1) ∨ (z < 0 ∧ z = -((q : Int) + 1))) := by
  have := absR_cases z
  refine ⟨(absR z - 1).toNat, by omega, by omega, ?_⟩
  rcases Int.lt_or_le 0 z with h | h
  · exact Or.inl ⟨h, by omega⟩
  · exact Or.inr ⟨by omega, by omega⟩
theorem sfI_pos {xs : List Aw} {q : Nat} (hq : q < xs.length) : sfI xs ((q : Int) + 1) = xs[q].f ∧ sfI xs (-((q : Int) + 1)) = xs[q].t := by
  unfold sfI
  refine ⟨?_, ?_⟩
  · rw [if_pos (by omega), show ((q : Int) + 1 - 1).toNat = q by omega, getD_of_lt hq]
  · rw [if_neg (by omega), show (-(-((q : Int) + 1)) - 1).toNat = q by omega, getD_of_lt hq]
/-- The sum of numbers of airways along the first k steps. -/
def alV (ds : List Int) (z : Int) : Int := if 0 < z then ds.getD (z - 1).toNat 0 else -(ds.getD (-z - 1).toNat 0)
def alS (ds zs : List Int) : Nat → Int
  | 0 => 0
  | k + 1 => alS ds zs k + alV ds (zs.getD k 0)
theorem alV_bd {ds : List Int} (h : ∀ j : Nat, -1489158000 ≤ ds.getD j 0 ∧ ds.getD j 0 ≤ 1489158000) (z : Int) : -1489158000 ≤ alV ds z ∧ alV ds z ≤ 1489158000 := by
  have a := h (z - 1).toNat
  have b := h (-z - 1).toNat
  unfold alV
  split <;> omega
theorem alS_bd {ds : List Int} (h : ∀ j : Nat, -1489158000 ≤ ds.getD j 0 ∧ ds.getD j 0 ≤ 1489158000) (zs : List Int) : ∀ k : Nat, -1489158000 * (k : Int) ≤ alS ds zs k ∧ alS ds zs k ≤ 1489158000 * (k : Int)
  | 0 => by simp [alS]
  | k + 1 => by
    have a := alS_bd h zs k
    have b := alV_bd h (zs.getD k 0)
    rw [alS]
    omega
theorem alV_at {ds : List Int} {q : Nat} : alV ds ((q : Int) + 1) = ds.getD q 0 ∧ alV ds (-((q : Int) + 1)) = -(ds.getD q 0) := by
  unfold alV
  refine ⟨?_, ?_⟩
  · rw [if_pos (by omega), show ((q : Int) + 1 - 1).toNat = q by omega]
  · rw [if_neg (by omega), show (-(-((q : Int) + 1)) - 1).toNat = q by omega]
theorem abs_at (z m : Int) (w : World) (h : absR z = m) (h1 : -9223372036854775807 ≤ z) (h2 : z ≤ 9223372036854775807) : Calls Try.prog 84 #[.int .i64 z] w fun e w' => e = .returned (.int .i64 m) ∧ w = w' := h ▸ l03Abs_any z w h1 h2
set_option maxHeartbeats 1000000 in
theorem l09Along_any (D Z : Value) (ds zs : List Int) (w : World) (hd : RowW .i64 w D ds) (hz : RowW .i64 w Z zs) (hb : ∀ j : Nat, -1489158000 ≤ ds.getD j 0 ∧ ds.getD j 0 ≤ 1489158000) (hl : ds.length ≤ 24) (hzl : zs.length ≤ 64) (hst : ∀ j : Nat, j < zs.length → zs.getD j 0 ≠ 0 ∧ -(ds.length : Int) ≤ zs.getD j 0 ∧ zs.getD j 0 ≤ ds.length) :
    Calls Try.prog 69 #[D, Z] w fun e w' => e = .returned (.int .i64 (alS ds zs zs.length)) ∧ w = w' := by
  obtain ⟨DA, dcap, rfl, _⟩ := id hd
  obtain ⟨ZA, zcap, rfl, _⟩ := id hz
  have HD := Lib.hid hd
  have HZ := Lib.hid hz
  have HB := Lib.hid hb
  have HS := Lib.hid hst
  clear hd hz hb hst
  go_enter Try.func69, Try.ntmps69
  go_wp2
  go_loop [5, 6] (fun t i => ∃ k : Nat, k ≤ zs.length ∧ i = .int .i64 k ∧ t = .int .i64 (alS ds zs k)) (fun _ i => zs.length - (intOf i).toNat)
  case atStart => exact ⟨0, by omega, rfl, rfl⟩
  case round =>
    obtain ⟨k, hk, rfl, rfl⟩ := hrel
    by_cases hlt : k < zs.length
    · obtain ⟨zb, zo, rfl, -, hc⟩ := RowW.cell HZ.out hlt
      obtain ⟨h0, h1⟩ := HS.out k hlt
      obtain ⟨q, hq, -, hcase⟩ := step_aw h0 h1
      obtain ⟨db, do_, rfl, -, hdc⟩ := RowW.cell HD.out hq
      obtain ⟨s1, s2⟩ := alS_bd HB.out zs k
      obtain ⟨y1, y2⟩ := HB.out q
      clear h0 h1
      obtain ⟨s, hs⟩ : ∃ s, alS ds zs k = s := ⟨_, rfl⟩
      rw [hs] at s1 s2 ⊢
      obtain ⟨y, hy⟩ : ∃ y, ds.getD q 0 = y := ⟨_, rfl⟩
      rcases hcase with ⟨-, hzq⟩ | ⟨-, hzq⟩
      · have HY := Lib.hid (show alS ds zs (k + 1) = s + y by rw [alS, hzq, alV_at.1, hs, hy])
        rw [hy] at hdc y1 y2
        have hwz : IntKind.i64.wrap (((q : Int) + 1) - 1) = (q : Int) := by rw [IntWalk.i64_in _ (by omega)]; omega
        rw [hzq] at hc
        generalize hzz : ((q : Int) + 1) = z at *
        have hz0 : 0 < z := by omega
        
        have hi1 : z - 1 = (q : Int) := by omega
        have hq0 : (q : Int) < (ds.length : Int) := by omega
        clear hzz
        go_wp2
        go_round
        case rel => exact ⟨k + 1, by omega, by go_num, by rw [HY.out]; first | done | rfl | (congr 1; omega)⟩
        case measure => simp [intOf]; omega
      · have HY := Lib.hid (show alS ds zs (k + 1) = s - y by rw [alS, hzq, alV_at.2, hs, hy]; omega)
        rw [hy] at hdc y1 y2
        have hwz : IntKind.i64.wrap (-(-((q : Int) + 1)) - 1) = (q : Int) := by rw [IntWalk.i64_in _ (by omega)]; omega
        rw [hzq] at hc
        generalize hzz : (-((q : Int) + 1)) = z at *
        have hz0 : ¬ 0 < z := by omega
        have hz1 : decide (0 < z) = false := decide_eq_false hz0
        have hwn : IntKind.i64.wrap (-z) = -z := IntWalk.i64_in _ (by omega)
        have hi1 : -z - 1 = (q : Int) := by omega
        have hq0 : (q : Int) < (ds.length : Int) := by omega
        clear hzz
        go_wp2
        go_round
        case rel => exact ⟨k + 1, by omega, by go_num, by rw [HY.out]; first | done | rfl | (congr 1; omega)⟩
        case measure => simp [intOf]; omega
    · obtain rfl : k = zs.length := by omega
      generalize hs : alS ds zs zs.length = s at *
      go_wp2
      go_ret
      exact ⟨ret_int (by first | rfl | exact hs.symm), rfl⟩
/-- Where a walk stands ahead of its step k: -1 ahead of the first one. -/
def atI (xs : List Aw) (zs : List Int) : Nat → Int
  | 0 => -1
  | p + 1 => sfI xs (-(zs.getD p 0))
theorem up_to_snoc {P : Nat → Prop} {k : Nat} (h : ∀ j, j < k → P j) (hk : P k) : ∀ j, j < k + 1 → P j := fun j hj => by
  rcases Nat.lt_or_ge j k with q | q
  · exact h j q
  · obtain rfl : j = k := by omega
    exact hk
set_option maxHeartbeats 4000000 in
set_option maxRecDepth 100000 in
theorem l09Walk_any (b cap : Nat) (A : Option Addr) (xs : List Aw) (Z : Value) (zs : List Int) (w : World) (hA : w.cell? ⟨b, 1, none⟩ = some (.slice A xs.length cap)) (hr : AwR w A xs) (hz : RowW .i64 w Z zs) (hzl : zs.length ≤ 1048576) (hn : xs.length ≤ 24) :
    Calls Try.prog 68 #[.pointer (some ⟨b, 0, none⟩), Z] w fun e w' => e = .returned (.bool (wkR xs zs && decide (zs.length ≤ 64))) ∧ ∃ n, w' = w.drewN n := by
  obtain ⟨ZA, zcap, rfl, _⟩ := id hz
  have HA := Lib.hid hA
  have HR := Lib.hid hr
  have HZ := Lib.hid hz
  have hwn : IntKind.i64.wrap (-(xs.length : Int)) = -(xs.length : Int) := IntWalk.i64_in _ (by omega)
  clear hr hz
  go_enter Try.func68, Try.ntmps68
  go_wp2
  clear hA
  go_loopw [6, 7] (fun t i wr => ∃ k n : Nat, k ≤ zs.length ∧ i = .int .i64 k ∧ Hid (∀ j : Nat, j < k → stpB xs zs j = true) ∧ Hid (t = .int .i64 (atI xs zs k)) ∧ Hid (wr = w.drewN n)) (fun t i wr => zs.length - (intOf i).toNat)
  case atStart => exact ⟨0, 0, by omega, rfl, Lib.hid (fun j h => absurd h (by omega)), Lib.hid rfl, Lib.hid rfl⟩
  case round =>
    obtain ⟨k, n, hk, rfl, HP, HT, hwr⟩ := hrel
    obtain rfl := HT.out
    by_cases hlt : k < zs.length
    · have hm : wr.cell? ⟨b, 1, none⟩ = some (.slice A xs.length cap) := by rw [hwr.out]; exact HA.out
      have HZ2 := Lib.hid (show RowW .i64 wr _ zs by rw [hwr.out]; exact HZ.out)
      have HR2 := Lib.hid (show AwR wr A xs by rw [hwr.out]; exact HR.out)
      obtain ⟨zb, zo, rfl, -, hc⟩ := RowW.cell HZ2.out hlt
      have hlI : (k : Int) < (zs.length : Int) := by omega
      by_cases h0 : zs.getD k 0 = 0
      · have HE := Lib.hid (show (wkR xs zs && decide (zs.length ≤ 64)) = false by rw [wkR_no hlt (stp_zero h0), Bool.false_and])
        rw [h0] at hc
        generalize atI xs zs k = at_ at *
        clear h0
        go_wp2
        go_ret
        exact ⟨ret_bool HE.out.symm, n, hwr.out⟩
      · by_cases hin : -(xs.length : Int) ≤ zs.getD k 0 ∧ zs.getD k 0 ≤ xs.length
        · obtain ⟨q, hq, HAB0, hcase⟩ := step_aw h0 hin
          have HAB := Lib.hid HAB0
          clear HAB0
          have hib := inB_true hin.1 hin.2
          obtain ⟨g, off, rfl, hrg⟩ := HR2.out q hq
          obtain ⟨⟨c0, c1, c2, c3⟩, c4, c5, c6⟩ := lay_row hrg
          obtain ⟨HF1, HF2⟩ := sfI_pos hq
          have hwm : IntKind.i64.wrap ((q : Int) + 1 - 1) = (q : Int) := by rw [IntWalk.i64_in _ (by omega)]; omega
          have hqi : (q : Int) < (xs.length : Int) := by omega
          clear c0 c3 c4 c5 c6 hrg
          rcases hcase with ⟨hsg, hzq⟩ | ⟨hsg, hzq⟩
          · have HF := Lib.hid (show sfI xs (zs.getD k 0) = xs[q].f by rw [hzq]; exact HF1)
            have HG := Lib.hid (show sfI xs (-(zs.getD k 0)) = xs[q].t by rw [hzq]; exact HF2)
            clear HF1 HF2 hzq
            generalize xs[q].f = f at *
            generalize xs[q].t = t at *
            cases k with
            | zero =>
              have HN := Lib.hid (up_to_snoc HP.out (stp_yes h0 hin (fun p h => absurd h (by omega))))
              have HAT := Lib.hid (show (Value.int .i64 t) = .int .i64 (atI xs zs 1) by rw [← HG.out]; rfl)
              rw [show atI xs zs 0 = -1 from rfl]
              rw [Nat.add_zero] at hc
              generalize zs.getD 0 0 = z at *
              have hz2 : (z == 0) = false := by simp [h0]
              have hz0 : ¬ z < 0 := by omega
              have hz1 : decide (z < 0) = false := decide_eq_false hz0
              go_wp2_with fail
              (with_reducible refine (l00In_any _ _ _ _).mono ?_)
              rintro e w' ⟨rfl, rfl⟩
              go_wp2_with fail
              go_quiet ((go_at_call 84; exact quiet_lft (abs_at _ _ _ HAB.out (by omega) (by omega))))
              go_wp2
              go_roundw
              case rel => exact ⟨1, _, by omega, by first | rfl | go_num, HN, HAT, Lib.hid (by rw [hwr.out]; first | rfl | exact World.drewN_drewN _ _ _)⟩
              case measure => simp [intOf]; omega
            | succ p =>
              have hpp : (0 : Int) < ((p + 1 : Nat) : Int) := by omega
              have hpd : decide ((0 : Int) < ((p + 1 : Nat) : Int)) = true := decide_eq_true hpp
              rw [show atI xs zs (p + 1) = sfI xs (-(zs.getD p 0)) from rfl]
              by_cases hat : f = sfI xs (-(zs.getD p 0))
              · have HN := Lib.hid (up_to_snoc HP.out (stp_yes h0 hin (fun p' h => by obtain rfl : p = p' := by omega
                                                                                      rw [HF.out]; exact hat)))
                have HAT := Lib.hid (show (Value.int .i64 t) = .int .i64 (atI xs zs (p + 1 + 1)) by rw [← HG.out]; rfl)
                rw [← hat]
                generalize zs.getD (p + 1) 0 = z at *
                have hz2 : (z == 0) = false := by simp [h0]
                clear hat
                have hz0 : ¬ z < 0 := by omega
                have hz1 : decide (z < 0) = false := decide_eq_false hz0
                go_wp2_with fail
                (with_reducible refine (l00In_any _ _ _ _).mono ?_)
                rintro e w' ⟨rfl, rfl⟩
                go_wp2_with fail
                go_quiet ((go_at_call 84; exact quiet_lft (abs_at _ _ _ HAB.out (by omega) (by omega))))
                go_wp2
                go_roundw
                case rel => exact ⟨p + 1 + 1, _, by omega, by first | rfl | go_num, HN, HAT, Lib.hid (by rw [hwr.out]; first | rfl | exact World.drewN_drewN _ _ _)⟩
                case measure => simp [intOf]; omega
              · have HE := Lib.hid (show (wkR xs zs && decide (zs.length ≤ 64)) = false by rw [wkR_no hlt (stp_off (by rw [HF.out]; exact hat)), Bool.false_and])
                generalize sfI xs (-(zs.getD p 0)) = a at *
                generalize zs.getD (p + 1) 0 = z at *
                have hz2 : (z == 0) = false := by simp [h0]
                have ha2 : (f == a) = false := by simp [hat]
                have ha3 : (f != a) = true := by simp [hat]
                have hz0 : ¬ z < 0 := by omega
                have hz1 : decide (z < 0) = false := decide_eq_false hz0
                go_wp2_with fail
                (with_reducible refine (l00In_any _ _ _ _).mono ?_)
                rintro e w' ⟨rfl, rfl⟩
                go_wp2_with fail
                go_quiet ((go_at_call 84; exact quiet_lft (abs_at _ _ _ HAB.out (by omega) (by omega))))
                go_wp2
                go_ret
                exact ⟨ret_bool HE.out.symm, _, by rw [hwr.out]; first | rfl | exact World.drewN_drewN _ _ _⟩
          · have HF := Lib.hid (show sfI xs (zs.getD k 0) = xs[q].t by rw [hzq]; exact HF2)
            have HG := Lib.hid (show sfI xs (-(zs.getD k 0)) = xs[q].f by rw [hzq, Int.neg_neg]; exact HF1)
            clear HF1 HF2 hzq
            generalize xs[q].f = f at *
            generalize xs[q].t = t at *
            cases k with
            | zero =>
              have HN := Lib.hid (up_to_snoc HP.out (stp_yes h0 hin (fun p h => absurd h (by omega))))
              have HAT := Lib.hid (show (Value.int .i64 f) = .int .i64 (atI xs zs 1) by rw [← HG.out]; rfl)
              rw [show atI xs zs 0 = -1 from rfl]
              rw [Nat.add_zero] at hc
              generalize zs.getD 0 0 = z at *
              have hz2 : (z == 0) = false := by simp [h0]
              have hz0 : z < 0 := by omega
              go_wp2_with fail
              (with_reducible refine (l00In_any _ _ _ _).mono ?_)
              rintro e w' ⟨rfl, rfl⟩
              go_wp2_with fail
              go_quiet ((go_at_call 84; exact quiet_lft (abs_at _ _ _ HAB.out (by omega) (by omega))))
              go_wp2
              go_roundw
              case rel => exact ⟨1, _, by omega, by first | rfl | go_num, HN, HAT, Lib.hid (by rw [hwr.out]; first | rfl | exact World.drewN_drewN _ _ _)⟩
              case measure => simp [intOf]; omega
            | succ p =>
              have hpp : (0 : Int) < ((p + 1 : Nat) : Int) := by omega
              have hpd : decide ((0 : Int) < ((p + 1 : Nat) : Int)) = true := decide_eq_true hpp
              rw [show atI xs zs (p + 1) = sfI xs (-(zs.getD p 0)) from rfl]
              by_cases hat : t = sfI xs (-(zs.getD p 0))
              · have HN := Lib.hid (up_to_snoc HP.out (stp_yes h0 hin (fun p' h => by obtain rfl : p = p' := by omega
                                                                                      rw [HF.out]; exact hat)))
                have HAT := Lib.hid (show (Value.int .i64 f) = .int .i64 (atI xs zs (p + 1 + 1)) by rw [← HG.out]; rfl)
                rw [← hat]
                generalize zs.getD (p + 1) 0 = z at *
                have hz2 : (z == 0) = false := by simp [h0]
                clear hat
                have hz0 : z < 0 := by omega
                go_wp2_with fail
                (with_reducible refine (l00In_any _ _ _ _).mono ?_)
                rintro e w' ⟨rfl, rfl⟩
                go_wp2_with fail
                go_quiet ((go_at_call 84; exact quiet_lft (abs_at _ _ _ HAB.out (by omega) (by omega))))
                go_wp2
                go_roundw
                case rel => exact ⟨p + 1 + 1, _, by omega, by first | rfl | go_num, HN, HAT, Lib.hid (by rw [hwr.out]; first | rfl | exact World.drewN_drewN _ _ _)⟩
                case measure => simp [intOf]; omega
              · have HE := Lib.hid (show (wkR xs zs && decide (zs.length ≤ 64)) = false by rw [wkR_no hlt (stp_off (by rw [HF.out]; exact hat)), Bool.false_and])
                generalize sfI xs (-(zs.getD p 0)) = a at *
                generalize zs.getD (p + 1) 0 = z at *
                have hz2 : (z == 0) = false := by simp [h0]
                have ha2 : (t == a) = false := by simp [hat]
                have ha3 : (t != a) = true := by simp [hat]
                have hz0 : z < 0 := by omega
                go_wp2_with fail
                (with_reducible refine (l00In_any _ _ _ _).mono ?_)
                rintro e w' ⟨rfl, rfl⟩
                go_wp2_with fail
                go_quiet ((go_at_call 84; exact quiet_lft (abs_at _ _ _ HAB.out (by omega) (by omega))))
                go_wp2
                go_ret
                exact ⟨ret_bool HE.out.symm, _, by rw [hwr.out]; first | rfl | exact World.drewN_drewN _ _ _⟩
        · have hib := inB_false hin
          have HE := Lib.hid (show (wkR xs zs && decide (zs.length ≤ 64)) = false by rw [wkR_no hlt (stp_out hin), Bool.false_and])
          generalize zs.getD k 0 = z at *
          generalize atI xs zs k = at_ at *
          have hz2 : (z == 0) = false := by simp [h0]
          clear hin
          go_wp2_with (go_at_call 58; (with_reducible refine (l00In_any _ _ _ _).mono ?_); rintro e w' ⟨rfl, rfl⟩)
          go_ret
          exact ⟨ret_bool HE.out.symm, n, hwr.out⟩
    · obtain rfl : k = zs.length := by omega
      have HE := Lib.hid (show (wkR xs zs && decide (zs.length ≤ 64)) = decide (zs.length ≤ 64) by rw [wkR_iff.2 HP.out, Bool.true_and])
      generalize atI xs zs zs.length = at_ at *
      by_cases h64 : zs.length ≤ 64
      · have t1 : (zs.length : Int) ≤ 64 := by omega
        have t2 : decide ((zs.length : Int) ≤ 64) = true := decide_eq_true t1
        go_wp2
        go_ret
        exact ⟨ret_bool (by first | rfl | (rw [HE.out, decide_eq_true h64]) | (rw [wkR_iff.2 HP.out])), n, hwr.out⟩
      · have t1 : ¬ (zs.length : Int) ≤ 64 := by omega
        have t2 : decide ((zs.length : Int) ≤ 64) = false := decide_eq_false t1
        go_wp2
        go_ret
        exact ⟨ret_bool (by first | rfl | (rw [HE.out, decide_eq_false h64]) | (rw [wkR_iff.2 HP.out])), n, hwr.out⟩
end Go.Proofs.Ytjooebiiceillaa
