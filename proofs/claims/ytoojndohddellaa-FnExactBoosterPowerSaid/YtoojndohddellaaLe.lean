/-
  Contracts of chapter 12: the power of boosters; the model's and the program's. Conditions: those that each theorem states.
-/
import Derived.Test.YtoojndohddellaaZg
namespace Go.Proofs.Ytoojndohddellaa
open Go.RowKit
set_option linter.unusedVariables false
set_option linter.unusedSimpArgs false

/-- The arguments of BoosterPower are as stated. -/
def bpOk (fl ai : List Int) (p : Int) : Bool := decide (fl.length ≤ 24) && (allR (-100000) 100000 fl && (risR 0 ((fl.length : Int) - 1) ai && inB p 1 20000))
theorem bpOk_iff {fl ai : List Int} {p : Int} : bpOk fl ai p = true ↔ fl.length ≤ 24 ∧ allR (-100000) 100000 fl = true ∧ risR 0 ((fl.length : Int) - 1) ai = true ∧ inB p 1 20000 = true := by
  simp [bpOk]
/-- The power of one booster, and of the first k of them. -/
def bpF (fl ai : List Int) (p : Int) (j : Nat) : Int := divR (p * absR (fl.getD (ai.getD j 0).toNat 0)) 100
def bpT (fl ai : List Int) (p : Int) : Nat → Int
  | 0 => 0
  | k + 1 => bpT fl ai p k + bpF fl ai p k
theorem flw_bd {fl : List Int} (h : allR (-100000) 100000 fl = true) (j : Nat) : -100000 ≤ fl.getD j 0 ∧ fl.getD j 0 ≤ 100000 := by
  by_cases hj : j < fl.length
  · rw [show fl.getD j 0 = fl[j] by simp [List.getD, hj]]; exact allR_iff.1 h _ (List.getElem_mem hj)
  · rw [show fl.getD j 0 = 0 by simp [List.getD, hj]]; omega
theorem bpM_bd {p q : Int} (hp : 1 ≤ p ∧ p ≤ 20000) (hq : -100000 ≤ q ∧ q ≤ 100000) : 0 ≤ p * absR q ∧ p * absR q ≤ 2000000000 := by
  have ha := absR_cases q
  have h0 : 0 ≤ absR q := absR_nonneg q
  have := mul_bd p (absR q) 20000 100000 (by omega) (by omega) (by omega) (by omega)
  have := Int.mul_nonneg (show 0 ≤ p by omega) h0
  omega
theorem bpF_bd {p q : Int} (hp : 1 ≤ p ∧ p ≤ 20000) (hq : -100000 ≤ q ∧ q ≤ 100000) : 0 ≤ divR (p * absR q) 100 ∧ divR (p * absR q) 100 ≤ 20000001 := by
  have h := bpM_bd hp hq
  rw [divR_pp _ _ h.1 (by omega)]
  generalize p * absR q = x at *
  omega
theorem bpT_bd {fl ai : List Int} {p : Int} (hp : 1 ≤ p ∧ p ≤ 20000) (hf : allR (-100000) 100000 fl = true) : ∀ k : Nat, 0 ≤ bpT fl ai p k ∧ bpT fl ai p k ≤ 20000001 * (k : Int)
  | 0 => by simp [bpT]
  | k + 1 => by
    have a := bpT_bd (ai := ai) hp hf k
    have b := bpF_bd hp (flw_bd hf (ai.getD k 0).toNat)
    rw [bpT]
    unfold bpF
    omega
def bpA (fl ai : List Int) (p : Int) : Int := if bpOk fl ai p then bpT fl ai p ai.length else 0
def bpB (fl ai : List Int) (p : Int) : Int := if bpOk fl ai p then 0 else 2
theorem bp_yes {fl ai : List Int} {p : Int} (h : bpOk fl ai p = true) : bpA fl ai p = bpT fl ai p ai.length ∧ bpB fl ai p = 0 := by simp [bpA, bpB, h]
theorem bp_no {fl ai : List Int} {p : Int} (h : ¬ (fl.length ≤ 24 ∧ allR (-100000) 100000 fl = true ∧ risR 0 ((fl.length : Int) - 1) ai = true ∧ inB p 1 20000 = true)) : bpA fl ai p = 0 ∧ bpB fl ai p = 2 := by
  have : bpOk fl ai p = false := by rw [← Bool.not_eq_true, bpOk_iff]; exact h
  simp [bpA, bpB, this]
theorem isBoost_any (n : Int) (w : World) : Calls Try.prog 84 #[.int .i64 n] w fun e w' => e = .returned (.bool (inB n 1 20000)) ∧ Below w.heap.size w w' := by
  go_enter Try.func84, Try.ntmps84
  go_wp2_with (go_at_call 51; (with_reducible refine (within64_one _ _ _ _ _ _ (by simp)).mono ?_); rintro e w' ⟨rfl, rfl⟩)
  go_ret
  exact ⟨rfl, below_box _ _⟩
set_option maxHeartbeats 2000000 in
theorem sBoosterPower_any (u : Value) (fl : List Int) (v : Value) (ai : List Int) (p : Int) (w : World) (hu : Row .i64 w u fl) (hfl : fl.length ≤ 1048576) (hv : Row .i64 w v ai) (hal : ai.length ≤ 1048576) :
    Calls Try.prog 47 #[u, v, .int .i64 p] w fun e w' => e = .returned (.tuple #[.int .i64 (bpA fl ai p), .int .i64 (bpB fl ai p)]) ∧ Below w.heap.size w w' := by
  obtain ⟨F, fcap, rfl⟩ := hu.form
  obtain ⟨G, gcap, rfl⟩ := hv.form
  have HU := Lib.hid hu
  have HV := Lib.hid hv
  clear hu hv
  by_cases h24 : fl.length ≤ 24
  · have h24I : ¬ (24 : Int) < (fl.length : Int) := by omega
    have h24d : decide ((24 : Int) < (fl.length : Int)) = false := decide_eq_false h24I
    cases hr : risR 0 ((fl.length : Int) - 1) ai
    · have HE := Lib.hid (bp_no (fl := fl) (ai := ai) (p := p) (by rw [hr]; simp))
      go_enter Try.func47, Try.ntmps47
      go_wp2_with fail
      (with_reducible refine (l00Rises_any _ ai 0 ((fl.length : Int) - 1) w (RowW.of_row HV.out) hal).mono ?_)
      rintro e w1 ⟨rfl, n1, rfl⟩
      rw [hr]
      go_wp2
      go_ret2
      exact ⟨ret_two HE.out.1.symm HE.out.2.symm, below_drewN' (Below.refl _ _) _⟩
    · cases hpi : inB p 1 20000
      · have HE := Lib.hid (bp_no (fl := fl) (ai := ai) (p := p) (by rw [hpi]; simp))
        go_enter Try.func47, Try.ntmps47
        go_wp2_with fail
        (with_reducible refine (l00Rises_any _ ai 0 ((fl.length : Int) - 1) w (RowW.of_row HV.out) hal).mono ?_)
        rintro e w1 ⟨rfl, n1, rfl⟩
        rw [hr]
        go_wp2_with (go_at_call 55; (with_reducible refine (l00In_any _ _ _ _).mono ?_); rintro e w' ⟨rfl, rfl⟩)
        go_ret2
        exact ⟨ret_two HE.out.1.symm HE.out.2.symm, below_drewN' (Below.refl _ _) _⟩
      · have hp := inB_iff.1 hpi
        go_enter Try.func47, Try.ntmps47
        go_wp2_with fail
        (with_reducible refine (l00Rises_any _ ai 0 ((fl.length : Int) - 1) w (RowW.of_row HV.out) hal).mono ?_)
        rintro e w1 ⟨rfl, n1, rfl⟩
        rw [hr]
        have HB1 := Lib.hid (below_drewN' (Below.refl w.heap.size w) n1)
        have HU1 := Lib.hid (HU.out.below HB1.out)
        have HV1 := Lib.hid (HV.out.below HB1.out)
        generalize w.drewN n1 = w1 at *
        go_wp2_with (go_at_call 55; (with_reducible refine (l00In_any _ _ _ _).mono ?_); rintro e w' ⟨rfl, rfl⟩)
        go_loop [8] (fun i => ∃ k : Nat, k ≤ fl.length ∧ i = .int .i64 (k : Int) ∧ Hid (∀ j : Nat, j < k → -100000 ≤ fl.getD j 0 ∧ fl.getD j 0 ≤ 100000)) (fun i => fl.length - (intOf i).toNat)
        case atStart => exact ⟨0, by omega, rfl, Lib.hid (fun j h => absurd h (by omega))⟩
        case round =>
          obtain ⟨k, hk, rfl, HA⟩ := hrel
          by_cases hlt : k < fl.length
          · obtain ⟨b, off, rfl, -, hc⟩ := Row.cell HU1.out hlt
            by_cases hin : -100000 ≤ fl.getD k 0 ∧ fl.getD k 0 ≤ 100000
            · have hi := inB_true hin.1 hin.2
              have HN := Lib.hid (show ∀ j : Nat, j < k + 1 → -100000 ≤ fl.getD j 0 ∧ fl.getD j 0 ≤ 100000 from fun j h => by
                rcases Nat.lt_or_ge j k with q | q
                · exact HA.out j q
                · obtain rfl : j = k := by omega
                  exact hin)
              clear hin
              generalize fl.getD k 0 = z at *
              go_wp2_with (go_at_call 72; (with_reducible refine (l03Flow_any _ _).mono ?_); rintro e w' ⟨rfl, rfl⟩)
              go_round
              case rel => exact ⟨k + 1, by omega, by go_num, HN⟩
              case measure => simp [intOf]; omega
            · have hi := inB_false hin
              have HE := Lib.hid (bp_no (fl := fl) (ai := ai) (p := p) (fun hh => hin (flw_bd hh.2.1 k)))
              clear hin
              generalize fl.getD k 0 = z at *
              go_wp2_with (go_at_call 72; (with_reducible refine (l03Flow_any _ _).mono ?_); rintro e w' ⟨rfl, rfl⟩)
              go_ret2
              exact ⟨ret_two HE.out.1.symm HE.out.2.symm, HB1.out⟩
          · obtain rfl : k = fl.length := by omega
            have hf : allR (-100000) 100000 fl = true := allR_iff.2 (fun y hy => by obtain ⟨j, hj, rfl⟩ := mem_at hy; exact HA.out j hj)
            have HE := Lib.hid (bp_yes (bpOk_iff.2 ⟨h24, hf, hr, hpi⟩))
            go_wp2
            go_loop [9, 10] (fun s i => ∃ k : Nat, k ≤ ai.length ∧ i = .int .i64 (k : Int) ∧ s = .int .i64 (bpT fl ai p k)) (fun s i => ai.length - (intOf i).toNat)
            case atStart => exact ⟨0, by omega, rfl, rfl⟩
            case round =>
              obtain ⟨k, hk, rfl, rfl⟩ := hrel
              by_cases hlt : k < ai.length
              · obtain ⟨gb, go, e1, -, ha⟩ := Row.cell (HV1.out) hlt
                have hin := risR_iff.1 hr |>.1 _ (at_mem hlt)
                obtain ⟨m, hm⟩ := Int.eq_ofNat_of_zero_le hin.1
                have hmf : m < fl.length := by omega
                obtain ⟨fb, fo, e2, -, hc⟩ := Row.cell (HU1.out) hmf
                subst e1 e2
                have hq := flw_bd hf m
                have HS := Lib.hid (show bpT fl ai p (k + 1) = bpT fl ai p k + divR (p * absR (fl.getD m 0)) 100 by rw [bpT]; unfold bpF; rw [hm]; rfl)
                have hs := bpT_bd (ai := ai) hp hf k
                have hM := bpM_bd hp hq
                have hF := bpF_bd hp hq
                rw [hm] at ha hin
                generalize bpT fl ai p k = s at *
                generalize fl.getD m 0 = q at *
                have hmI : (m : Int) < (fl.length : Int) := by omega
                have hkI : (k : Int) < (ai.length : Int) := by omega
                have hac := absR_cases q
                obtain ⟨hM1, hM2⟩ := hM
                go_wp2_with (first
      | (go_at_call 82; (with_reducible refine (l03Abs_any _ _ (by omega) (by omega)).mono ?_); rintro e w' ⟨rfl, rfl⟩)
      | (go_at_call 65; (with_reducible refine (l01Div_any _ _ _ (by omega) (by omega) (by omega) (by omega) (by omega)).mono ?_); rintro e w' ⟨rfl, rfl⟩))
                go_round
                case rel => exact ⟨k + 1, by omega, by go_num, by rw [HS.out]⟩
                case measure => simp [intOf]; omega
              · obtain rfl : k = ai.length := by omega
                go_wp2
                go_ret2
                exact ⟨ret_two HE.out.1.symm HE.out.2.symm, HB1.out⟩
  · have HE := Lib.hid (bp_no (fl := fl) (ai := ai) (p := p) (fun hh => h24 hh.1))
    have h24I : (24 : Int) < (fl.length : Int) := by omega
    go_enter Try.func47, Try.ntmps47
    go_wp2
    go_ret2
    exact ⟨ret_two HE.out.1.symm HE.out.2.symm, Below.refl _ _⟩
set_option maxHeartbeats 2000000 in
theorem iBoosterPower_any (u : Value) (fl : List Int) (v : Value) (ai : List Int) (p : Int) (w : World) (hu : Row .i64 w u fl) (hfl : fl.length ≤ 1048576) (hv : Row .i64 w v ai) (hal : ai.length ≤ 1048576) :
    Calls Try.prog 48 #[u, v, .int .i64 p] w fun e w' => e = .returned (.tuple #[.int .i64 (bpA fl ai p), .int .i64 (bpB fl ai p)]) ∧ Below w.heap.size w w' := by
  obtain ⟨F, fcap, rfl⟩ := hu.form
  obtain ⟨G, gcap, rfl⟩ := hv.form
  have HU := Lib.hid hu
  have HV := Lib.hid hv
  clear hu hv
  by_cases h24 : fl.length ≤ 24
  · have h24I : ¬ (24 : Int) < (fl.length : Int) := by omega
    have h24d : decide ((24 : Int) < (fl.length : Int)) = false := decide_eq_false h24I
    cases hf : allR (-100000) 100000 fl
    · have HE := Lib.hid (bp_no (fl := fl) (ai := ai) (p := p) (by rw [hf]; simp))
      go_enter Try.func48, Try.ntmps48
      go_wp2_with (go_at_call 51; (with_reducible refine (within64_any _ _ _ fl _ HU.out (by omega)).mono ?_); rintro e w' ⟨rfl, rfl⟩; rw [hf])
      go_ret2
      exact ⟨ret_two HE.out.1.symm HE.out.2.symm, Below.refl _ _⟩
    · cases hr : risR 0 ((fl.length : Int) - 1) ai
      · have HE := Lib.hid (bp_no (fl := fl) (ai := ai) (p := p) (by rw [hr]; simp))
        go_enter Try.func48, Try.ntmps48
        go_wp2_with (first
      | (go_at_call 51; (with_reducible refine (within64_any _ _ _ fl _ HU.out (by omega)).mono ?_); rintro e w' ⟨rfl, rfl⟩; rw [hf])
      | (go_at_call 83; (with_reducible refine (areIdx_any fl.length _ ai _ HV.out hal hfl).mono ?_); rintro e w' ⟨rfl, rfl⟩; rw [hr]))
        go_ret2
        exact ⟨ret_two HE.out.1.symm HE.out.2.symm, Below.refl _ _⟩
      · cases hpi : inB p 1 20000
        · have HE := Lib.hid (bp_no (fl := fl) (ai := ai) (p := p) (by rw [hpi]; simp))
          go_enter Try.func48, Try.ntmps48
          go_wp2_with (first
      | (go_at_call 51; (with_reducible refine (within64_any _ _ _ fl _ HU.out (by omega)).mono ?_); rintro e w' ⟨rfl, rfl⟩; rw [hf])
      | (go_at_call 83; (with_reducible refine (areIdx_any fl.length _ ai _ HV.out hal hfl).mono ?_); rintro e w' ⟨rfl, rfl⟩; rw [hr])
      | (go_at_call 84; (with_reducible refine (isBoost_any p _).mono ?_); rintro e w1 ⟨rfl, hd1⟩; rw [hpi]; have HB1 := Lib.hid hd1; clear hd1))
          go_ret2
          exact ⟨ret_two HE.out.1.symm HE.out.2.symm, HB1.out⟩
        · have hp := inB_iff.1 hpi
          have HE := Lib.hid (bp_yes (bpOk_iff.2 ⟨h24, hf, hr, hpi⟩))
          go_enter Try.func48, Try.ntmps48
          go_wp2_with (first
      | (go_at_call 51; (with_reducible refine (within64_any _ _ _ fl _ HU.out (by omega)).mono ?_); rintro e w' ⟨rfl, rfl⟩; rw [hf])
      | (go_at_call 83; (with_reducible refine (areIdx_any fl.length _ ai _ HV.out hal hfl).mono ?_); rintro e w' ⟨rfl, rfl⟩; rw [hr])
      | (go_at_call 84; (with_reducible refine (isBoost_any p _).mono ?_); rintro e w1 ⟨rfl, hd1⟩; rw [hpi]; have HB1 := Lib.hid hd1; clear hd1))
          go_loopw [8, 33] (fun s i wr => ∃ k : Nat, k ≤ ai.length ∧ i = .int .i64 (k : Int) ∧ s = .int .i64 (bpT fl ai p k) ∧ Below w.heap.size w wr) (fun s i wr => ai.length - (intOf i).toNat)
          case atStart => exact ⟨0, by omega, rfl, rfl, HB1.out⟩
          case round =>
            obtain ⟨k, hk, rfl, rfl, hbel⟩ := hrel
            by_cases hlt : k < ai.length
            · have HUk := Lib.hid (HU.out.below hbel)
              have HVk := Lib.hid (HV.out.below hbel)
              have HBL := Lib.hid hbel
              clear hbel
              obtain ⟨gb, go, e1, -, ha⟩ := Row.cell (HVk.out) hlt
              have hin := risR_iff.1 hr |>.1 _ (at_mem hlt)
              obtain ⟨m, hm⟩ := Int.eq_ofNat_of_zero_le hin.1
              have hmf : m < fl.length := by omega
              obtain ⟨fb, fo, e2, -, hc⟩ := Row.cell (HUk.out) hmf
              subst e1 e2
              have hq := flw_bd hf m
              have HS := Lib.hid (show bpT fl ai p (k + 1) = bpT fl ai p k + divR (p * absR (fl.getD m 0)) 100 by rw [bpT]; unfold bpF; rw [hm]; rfl)
              have hs := bpT_bd (ai := ai) hp hf k
              have hM := bpM_bd hp hq
              have hF := bpF_bd hp hq
              rw [hm] at ha hin
              generalize bpT fl ai p k = s at *
              generalize fl.getD m 0 = q at *
              have hmI : (m : Int) < (fl.length : Int) := by omega
              have hkI : (k : Int) < (ai.length : Int) := by omega
              have hac := absR_cases q
              obtain ⟨hM1, hM2⟩ := hM
              go_wp2_with (first
      | (go_at_call 85; (with_reducible refine (absolute_any _ _ (by omega) (by omega)).mono ?_); rintro e w' ⟨rfl, rfl⟩)
      | (go_at_call 66; (with_reducible refine (nearest_any _ _ _ (by omega) (by omega) (by omega) (by omega)).mono ?_); rintro e w' ⟨rfl, n, rfl⟩))
              go_roundw
              case rel => exact ⟨k + 1, by omega, by go_num, by rw [HS.out], below_drewN' HBL.out _⟩
              case measure => simp [intOf]; omega
            · obtain rfl : k = ai.length := by omega
              go_wp2
              go_ret2
              exact ⟨ret_two HE.out.1.symm HE.out.2.symm, hbel⟩
  · have HE := Lib.hid (bp_no (fl := fl) (ai := ai) (p := p) (fun hh => h24 hh.1))
    have h24I : (24 : Int) < (fl.length : Int) := by omega
    go_enter Try.func48, Try.ntmps48
    go_wp2
    go_ret2
    exact ⟨ret_two HE.out.1.symm HE.out.2.symm, Below.refl _ _⟩
end Go.Proofs.Ytoojndohddellaa
