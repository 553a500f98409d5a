/-
  Contracts of chapter 13: flows that are mixed; the model's and the program's. Conditions: those that each theorem states.
-/
import Derived.Test.YthbofhlfggkolaaPd
import Derived.Test.YthbofhlfggkolaaRg
import Derived.Test.YthbofhlfggkolaaRh
import Derived.Test.YthbofhlfggkolaaNh
namespace Go.Proofs.Ythbofhlfggkolaa
open Go.RowKit
set_option linter.unusedVariables false
set_option linter.unusedSimpArgs false

theorem allR_get {lo hi : Int} {xs : List Int} (h : allR lo hi xs = true) {k : Nat} (hk : k < xs.length) : lo ≤ xs[k] ∧ xs[k] ≤ hi := allR_iff.1 h _ (List.getElem_mem hk)
theorem getD_lt {xs : List Int} {k : Nat} (hk : k < xs.length) : xs.getD k 0 = xs[k] := by simp [List.getD, hk]
/-- The sums of the first k flows and of their products with shares. -/
def miF (fl : List Int) : Nat → Int
  | 0 => 0
  | k + 1 => miF fl k + fl.getD k 0
def miS (fl sh : List Int) : Nat → Int
  | 0 => 0
  | k + 1 => miS fl sh k + fl.getD k 0 * sh.getD k 0
theorem mi_bd {fl sh : List Int} (h1 : allR 0 100000 fl = true) (h2 : allR 0 1000000 sh = true) (h : fl.length = sh.length) : ∀ k, k ≤ fl.length → (0 ≤ miF fl k ∧ miF fl k ≤ 100000 * (k : Int)) ∧ 0 ≤ miS fl sh k ∧ miS fl sh k ≤ 100000000000 * (k : Int)
  | 0, _ => by simp [miF, miS]
  | k + 1, hk => by
    have ih := mi_bd h1 h2 h k (by omega)
    have a := allR_get h1 (show k < fl.length by omega)
    have b := allR_get h2 (show k < sh.length by omega)
    unfold miF miS
    rw [getD_lt (show k < fl.length by omega), getD_lt (show k < sh.length by omega)]
    have c : 0 ≤ fl[k] * sh[k] := Int.mul_nonneg a.1 b.1
    have d : fl[k] * sh[k] ≤ 100000 * 1000000 := Int.mul_le_mul a.2 b.2 b.1 (by omega)
    omega
/-- What is mixed of n flows. -/
def miR (fl sh : List Int) (n : Nat) : Int := if miF fl n = 0 then 0 else cdv (miS fl sh n) (miF fl n)
def mxC (fl sh : List Int) : Int := if allR 0 100000 fl && allR 0 1000000 sh then (if fl.length = sh.length ∧ fl.length ≤ 64 then 0 else 7) else 2
def mxA (fl sh : List Int) : Int := if mxC fl sh = 0 then miR fl sh fl.length else 0
theorem mx_two {fl sh : List Int} (h : ¬ (allR 0 100000 fl = true ∧ allR 0 1000000 sh = true)) : mxA fl sh = 0 ∧ mxC fl sh = 2 := by
  have : mxC fl sh = 2 := by unfold mxC; rw [if_neg (by simpa using h)]
  exact ⟨by unfold mxA; rw [this]; rfl, this⟩
theorem mx_seven {fl sh : List Int} (h1 : allR 0 100000 fl = true) (h2 : allR 0 1000000 sh = true) (h : ¬ (fl.length = sh.length ∧ fl.length ≤ 64)) : mxA fl sh = 0 ∧ mxC fl sh = 7 := by
  have : mxC fl sh = 7 := by unfold mxC; rw [h1, h2, if_neg h]; rfl
  exact ⟨by unfold mxA; rw [this]; rfl, this⟩
theorem mx_ok {fl sh : List Int} (h1 : allR 0 100000 fl = true) (h2 : allR 0 1000000 sh = true) (h : fl.length = sh.length ∧ fl.length ≤ 64) : mxA fl sh = miR fl sh fl.length ∧ mxC fl sh = 0 := by
  have : mxC fl sh = 0 := by unfold mxC; rw [h1, h2, if_pos h]; rfl
  exact ⟨by unfold mxA; rw [if_pos this], this⟩
theorem allR_all {lo hi : Int} {xs : List Int} (h : ∀ j (hj : j < xs.length), lo ≤ xs[j] ∧ xs[j] ≤ hi) : allR lo hi xs = true := allR_iff.2 fun y hy => by
  obtain ⟨j, hj, rfl⟩ := List.mem_iff_getElem.1 hy
  exact h j hj
set_option maxHeartbeats 1000000 in
theorem l13Mix_any (u : Value) (fl : List Int) (v : Value) (sh : List Int) (w : World) (hu : Row .i64 w u fl) (hfl : fl.length ≤ 1048576) (hv : Row .i64 w v sh) (hsl : sh.length ≤ 1048576) (h1 : allR 0 100000 fl = true) (h2 : allR 0 1000000 sh = true) (hle : fl.length = sh.length) (h64 : fl.length ≤ 64) :
    Calls Try.prog 60 #[u, v] w fun e w' => e = .returned (.int .i64 (miR fl sh fl.length)) ∧ Below w.heap.size w w' := by
  obtain ⟨F, fcap, rfl⟩ := hu.form
  obtain ⟨G, gcap, rfl⟩ := hv.form
  have HU := Lib.hid hu
  have HV := Lib.hid hv
  clear hu hv
  have HA1 := Lib.hid h1
  have HA2 := Lib.hid h2
  have HLE := Lib.hid hle
  clear h1 h2 hle
  go_enter Try.func60, Try.ntmps60
  go_wp2
  go_loopw [5, 6, 7] (fun s a i wr => ∃ k : Nat, k ≤ fl.length ∧ i = .int .i64 k ∧ a = .int .i64 (miF fl k) ∧ s = .int .i64 (miS fl sh k) ∧ Hid (Below w.heap.size w wr)) (fun s a i wr => fl.length - (intOf i).toNat)
  case atStart => exact ⟨0, by omega, rfl, rfl, rfl, Lib.hid (Below.refl _ _)⟩
  case round =>
    obtain ⟨k, hk, rfl, rfl, rfl, HB⟩ := hrel
    obtain ⟨wo, rfl⟩ : ∃ wo : World, wo = wr := ⟨_, rfl⟩
    by_cases hlt : k < fl.length
    · skip
      have hbd := mi_bd HA1.out HA2.out HLE.out k (by omega)
      obtain ⟨fb, fo, e1, -, cf⟩ := Row.cell (HU.out.below HB.out) (show k < fl.length by omega)
      obtain ⟨gb, go, e2, -, cg⟩ := Row.cell (HV.out.below HB.out) (show k < sh.length by have := HLE.out; omega)
      have hp := allR_get HA1.out (show k < fl.length by omega)
      have hq := allR_get HA2.out (show k < sh.length by have := HLE.out; omega)
      have HN := Lib.hid (And.intro (show miF fl (k + 1) = miF fl k + fl.getD k 0 from rfl) (show miS fl sh (k + 1) = miS fl sh k + fl.getD k 0 * sh.getD k 0 from rfl))
      rw [getD_lt (show k < fl.length by omega)] at cf HN
      rw [getD_lt (show k < sh.length by have := HLE.out; omega)] at cg HN
      have hks : (k : Int) < (sh.length : Int) := by have := HLE.out; omega
      have hkn : k < sh.length := by have := HLE.out; omega
      generalize fl[k] = p at *
      generalize sh[k] = q at *
      have hm1 : 0 ≤ p * q := Int.mul_nonneg hp.1 hq.1
      have hm2 : p * q ≤ 100000 * 1000000 := Int.mul_le_mul hp.2 hq.2 hq.1 (by omega)
      obtain ⟨hp1, hp2⟩ := hp
      obtain ⟨hq1, hq2⟩ := hq
      obtain ⟨⟨hb1, hb2⟩, hb3, hb4⟩ := hbd
      generalize miF fl k = x at *
      generalize miS fl sh k = y at *
      subst e1
      subst e2
      go_wp2_with fail
      refine wp_region_held (S := fun w' => w'.cell? ⟨fb, fo + k, none⟩ = some (.int .i64 p) ∧ w'.cell? ⟨gb, go + k, none⟩ = some (.int .i64 q) ∧ Below wo.heap.size wo w') (by kernel_rfl) ?_
      try (change wpAnyH _ _ _ _ _ _ _ _ (World.drew _))
      have hS0 := (show wo.drew.cell? ⟨fb, fo + k, none⟩ = some (.int .i64 p) ∧ wo.drew.cell? ⟨gb, go + k, none⟩ = some (.int .i64 q) ∧ Below wo.heap.size wo wo.drew from ⟨cf, cg, Below.drew (Below.refl _ _)⟩)
      refine gTake 0 (v := ?_) rfl (by kernel_rfl) (by kernel_rfl) (by kernel_rfl) (fun _ _ _ h => h) (by kernel_rfl) ?_ hS0 ?_
      rotate_left
      · (intro W hW; clear hW; go_simp; try with_reducible rfl)
      refine gTake 1 (v := ?_) rfl (by kernel_rfl) (by kernel_rfl) (by kernel_rfl) (fun _ _ _ h => h) (by kernel_rfl) ?_ hS0 ?_
      rotate_left
      · (intro W hW; clear hW; go_simp; try with_reducible rfl)
      refine gTake 2 (v := ?_) rfl (by kernel_rfl) (by kernel_rfl) (by kernel_rfl) (fun _ _ _ h => h) (by kernel_rfl) ?_ hS0 ?_
      rotate_left
      · (intro W hW; clear hW; go_simp; try with_reducible rfl)
      refine gTake 3 (v := ?_) rfl (by kernel_rfl) (by kernel_rfl) (by kernel_rfl) (fun _ _ _ h => h) (by kernel_rfl) ?_ hS0 ?_
      rotate_left
      · (intro W hW; clear hW; go_simp; try with_reducible rfl)
      refine gTake 4 (v := ?_) rfl (by kernel_rfl) (by kernel_rfl) (by kernel_rfl) (fun _ _ _ h => h) (by kernel_rfl) ?_ hS0 ?_
      rotate_left
      · (intro W hW; have q0 := hW.1; have q1 := hW.2.1; clear hW; go_simp; try with_reducible rfl)
      refine gTake 5 (v := ?_) rfl (by kernel_rfl) (by kernel_rfl) (by kernel_rfl) (fun _ _ _ h => h) (by kernel_rfl) ?_ hS0 ?_
      rotate_left
      · (intro W hW; clear hW; go_simp; try with_reducible rfl)
      refine gTake 6 (v := ?_) rfl (by kernel_rfl) (by kernel_rfl) (by kernel_rfl) (fun _ _ _ h => h) (by kernel_rfl) ?_ hS0 ?_
      rotate_left
      · (intro W hW; clear hW; go_simp; try with_reducible rfl)
      refine gTake 7 (v := ?_) rfl (by kernel_rfl) (by kernel_rfl) (by kernel_rfl) (fun _ _ _ h => h) (by kernel_rfl) ?_ hS0 ?_
      rotate_left
      · (intro W hW; clear hW; go_simp; try with_reducible rfl)
      refine gTake 8 (v := ?_) rfl (by kernel_rfl) (by kernel_rfl) (by kernel_rfl) (fun _ _ _ h => h) (by kernel_rfl) ?_ hS0 ?_
      rotate_left
      · (intro W hW; have q0 := hW.1; have q1 := hW.2.1; clear hW; go_simp; try with_reducible rfl)
      refine gTake 9 (v := ?_) rfl (by kernel_rfl) (by kernel_rfl) (by kernel_rfl) (fun _ _ _ h => h) (by kernel_rfl) ?_ hS0 ?_
      rotate_left
      · (intro W hW; clear hW; go_simp; try with_reducible rfl)
      refine gTake 10 (v := ?_) rfl (by kernel_rfl) (by kernel_rfl) (by kernel_rfl) (fun _ _ _ h => h) (by kernel_rfl) ?_ hS0 ?_
      rotate_left
      · (intro W hW; clear hW; go_simp; try with_reducible rfl)
      refine gTake 11 (v := ?_) rfl (by kernel_rfl) (by kernel_rfl) (by kernel_rfl) (fun _ _ _ h => h) (by kernel_rfl) ?_ hS0 ?_
      rotate_left
      · (intro W hW; clear hW; go_simp; try with_reducible rfl)
      refine wpAnyH_done (by kernel_rfl) ?_ _
      go_simp
      have kf : wo.drew.cell? ⟨fb, fo + k, none⟩ = some (.int .i64 p) := cf
      go_wp2
      go_roundw
      case rel => exact ⟨k + 1, by omega, by go_num, by rw [HN.out.1], by rw [HN.out.2, IntWalk.i64_in (p * q) (by omega), IntWalk.i64_in (y + p * q) (by omega)], Lib.hid (HB.out.trans (hS0.2.2.mono HB.out.size))⟩
      case measure => simp [intOf]; omega
    · obtain rfl : k = fl.length := by omega
      have hbd := mi_bd HA1.out HA2.out HLE.out fl.length (Nat.le_refl _)
      have HR := Lib.hid (show miR fl sh fl.length = if miF fl fl.length = 0 then 0 else (miS fl sh fl.length + miF fl fl.length - 1) / miF fl fl.length from rfl)
      generalize miF fl fl.length = x at *
      generalize miS fl sh fl.length = y at *
      obtain ⟨⟨hb1, hb2⟩, hb3, hb4⟩ := hbd
      by_cases hx : x = 0
      · rw [if_pos hx] at HR
        go_wp2
        go_ret
        exact ⟨ret_int HR.out.symm, HB.out⟩
      · rw [if_neg hx] at HR
        have hd : 0 ≤ (y + x - 1) / x ∧ (y + x - 1) / x ≤ y := cdv_bd hb3 (by omega)
        obtain ⟨hd1, hd2⟩ := hd
        go_wp2
        go_ret
        exact ⟨ret_int HR.out.symm, HB.out⟩
set_option maxHeartbeats 1000000 in
theorem sMixFlows_any (u : Value) (fl : List Int) (v : Value) (sh : List Int) (w : World) (hu : Row .i64 w u fl) (hfl : fl.length ≤ 1048576) (hv : Row .i64 w v sh) (hsl : sh.length ≤ 1048576) :
    Calls Try.prog 23 #[u, v] w fun e w' => e = .returned (.tuple #[.int .i64 (mxA fl sh), .int .i64 (mxC fl sh)]) ∧ Below w.heap.size w w' := by
  obtain ⟨F, fcap, rfl⟩ := hu.form
  obtain ⟨G, gcap, rfl⟩ := hv.form
  have HU := Lib.hid hu
  have HV := Lib.hid hv
  clear hu hv
  go_enter Try.func23, Try.ntmps23
  go_wp2
  go_loopw [6] (fun i wr => ∃ k : Nat, k ≤ fl.length ∧ i = .int .i64 k ∧ Hid (∀ j (hj : j < fl.length), j < k → 0 ≤ fl[j] ∧ fl[j] ≤ 100000) ∧ Hid (w = wr)) (fun i wr => fl.length - (intOf i).toNat)
  case atStart => exact ⟨0, by omega, rfl, Lib.hid (fun j _ h => absurd h (by omega)), Lib.hid rfl⟩
  case round =>
    obtain ⟨k, hk, rfl, HG, HW⟩ := hrel
    obtain ⟨wo, rfl⟩ : ∃ wo : World, wo = wr := ⟨_, rfl⟩
    obtain rfl := HW.out
    by_cases hlt : k < fl.length
    · obtain ⟨fb, fo, e1, -, cf⟩ := Row.cell HU.out hlt
      rw [getD_lt hlt] at cf
      have HKF := Lib.hid (show ∀ q, fl[k] = q → 0 ≤ q ∧ q ≤ 100000 → ∀ j (hj : j < fl.length), j < k + 1 → 0 ≤ fl[j] ∧ fl[j] ≤ 100000 from fun q e hq j hj hjk => by
        rcases Nat.lt_or_ge j k with h | h
        · exact HG.out j hj h
        · obtain rfl : j = k := by omega
          rw [e]; exact hq)
      have HKB := Lib.hid (show ∀ q, fl[k] = q → ¬ (0 ≤ q ∧ q ≤ 100000) → mxA fl sh = 0 ∧ mxC fl sh = 2 from fun q e hq => mx_two (fun h => hq (e ▸ allR_get h.1 hlt)))
      obtain ⟨p, hp⟩ : ∃ p, fl[k] = p := ⟨_, rfl⟩
      rw [hp] at cf
      have HPQ := Lib.hid hp
      clear hp
      subst e1
      by_cases hr : 0 ≤ p ∧ p ≤ 100000
      · have hi := inB_true hr.1 hr.2
        have HK2 := Lib.hid (HKF.out p HPQ.out hr)
        go_wp2_with fail
        (with_reducible refine (l00In_any _ _ _ _).mono ?_)
        rintro e w' ⟨rfl, rfl⟩
        rw [hi]
        go_wp2
        go_roundw
        case rel => exact ⟨k + 1, by omega, by go_num, HK2, HW⟩
        case measure => simp [intOf]; omega
      · have hi := inB_false hr
        have HE := Lib.hid (HKB.out p HPQ.out hr)
        go_wp2_with fail
        (with_reducible refine (l00In_any _ _ _ _).mono ?_)
        rintro e w' ⟨rfl, rfl⟩
        rw [hi]
        go_wp2
        go_ret2
        exact ⟨ret_two HE.out.1.symm HE.out.2.symm, Below.refl _ _⟩
    · have HA1 := Lib.hid (show allR 0 100000 fl = true from allR_all fun j hj => HG.out j hj (by omega))
      obtain rfl : k = fl.length := by omega
      clear HG HW hlt hk
      go_wp2
      go_loopw [7] (fun i wr => ∃ k : Nat, k ≤ sh.length ∧ i = .int .i64 k ∧ Hid (∀ j (hj : j < sh.length), j < k → 0 ≤ sh[j] ∧ sh[j] ≤ 1000000) ∧ Hid (w = wr)) (fun i wr => sh.length - (intOf i).toNat)
      case atStart => exact ⟨0, by omega, rfl, Lib.hid (fun j _ h => absurd h (by omega)), Lib.hid rfl⟩
      case round =>
        obtain ⟨k, hk, rfl, HG, HW⟩ := hrel
        obtain ⟨wi, rfl⟩ : ∃ wi : World, wi = wr := ⟨_, rfl⟩
        obtain rfl := HW.out
        by_cases hlt : k < sh.length
        · obtain ⟨fb, fo, e1, -, cf⟩ := Row.cell HV.out hlt
          rw [getD_lt hlt] at cf
          have HKF := Lib.hid (show ∀ q, sh[k] = q → 0 ≤ q ∧ q ≤ 1000000 → ∀ j (hj : j < sh.length), j < k + 1 → 0 ≤ sh[j] ∧ sh[j] ≤ 1000000 from fun q e hq j hj hjk => by
            rcases Nat.lt_or_ge j k with h | h
            · exact HG.out j hj h
            · obtain rfl : j = k := by omega
              rw [e]; exact hq)
          have HKB := Lib.hid (show ∀ q, sh[k] = q → ¬ (0 ≤ q ∧ q ≤ 1000000) → mxA fl sh = 0 ∧ mxC fl sh = 2 from fun q e hq => mx_two (fun h => hq (e ▸ allR_get h.2 hlt)))
          obtain ⟨p, hp⟩ : ∃ p, sh[k] = p := ⟨_, rfl⟩
          rw [hp] at cf
          have HPQ := Lib.hid hp
          clear hp
          subst e1
          by_cases hr : 0 ≤ p ∧ p ≤ 1000000
          · have hi := inB_true hr.1 hr.2
            have HK2 := Lib.hid (HKF.out p HPQ.out hr)
            go_wp2_with fail
            (with_reducible refine (l00In_any _ _ _ _).mono ?_)
            rintro e w' ⟨rfl, rfl⟩
            rw [hi]
            go_wp2
            go_roundw
            case rel => exact ⟨k + 1, by omega, by go_num, HK2, HW⟩
            case measure => simp [intOf]; omega
          · have hi := inB_false hr
            have HE := Lib.hid (HKB.out p HPQ.out hr)
            go_wp2_with fail
            (with_reducible refine (l00In_any _ _ _ _).mono ?_)
            rintro e w' ⟨rfl, rfl⟩
            rw [hi]
            go_wp2
            go_ret2
            exact ⟨ret_two HE.out.1.symm HE.out.2.symm, Below.refl _ _⟩
        · have HA2 := Lib.hid (show allR 0 1000000 sh = true from allR_all fun j hj => HG.out j hj (by omega))
          obtain rfl : k = sh.length := by omega
          clear HG HW hlt hk
          by_cases hle : fl.length = sh.length
          · have t1 : ((fl.length : Int) != (sh.length : Int)) = false := by simp; omega
            by_cases h64 : fl.length ≤ 64
            · have t2 : ¬ ((64 : Int) < (fl.length : Int)) := by omega
              have HE := Lib.hid (mx_ok HA1.out HA2.out ⟨hle, h64⟩)
              have HX := Lib.hid (l13Mix_any _ fl _ sh w HU.out hfl HV.out hsl HA1.out HA2.out hle h64)
              clear hle
              go_wp2_with fail
              (with_reducible refine (HX.out).mono ?_)
              rintro e w2 ⟨rfl, hd2⟩
              go_wp2
              go_ret2
              exact ⟨ret_two HE.out.1.symm HE.out.2.symm, hd2⟩
            · have t2 : (64 : Int) < (fl.length : Int) := by omega
              have HE := Lib.hid (mx_seven HA1.out HA2.out (fun h => h64 h.2))
              clear hle
              go_wp2
              go_ret2
              exact ⟨ret_two HE.out.1.symm HE.out.2.symm, Below.refl _ _⟩
          · have t1 : ((fl.length : Int) != (sh.length : Int)) = true := by simp; omega
            have HE := Lib.hid (mx_seven HA1.out HA2.out (fun h => hle h.1))
            go_wp2
            go_ret2
            exact ⟨ret_two HE.out.1.symm HE.out.2.symm, Below.refl _ _⟩
theorem adr_neM {a b o o2 : Nat} (h : ¬ a = b) : (⟨a, o, none⟩ : Addr) ≠ ⟨b, o2, none⟩ := fun e => by injection e with e; exact h e
theorem with_any (f p q s : Int) (w : World) (h1 : 0 ≤ f ∧ f ≤ 100000000) (h2 : 0 ≤ p ∧ p ≤ 100000000000000) (h3 : 0 ≤ q ∧ q ≤ 100000) (h4 : 0 ≤ s ∧ s ≤ 1000000) :
    Calls Try.prog 62 #[.agg #[.int .i64 f, .int .i64 p], .agg #[.int .i64 q, .int .i64 s]] w fun e w' => e = .returned (.agg #[.int .i64 (f + q), .int .i64 (p + q * s)]) ∧ Below w.heap.size w w' := by
  have hm1 : 0 ≤ q * s := Int.mul_nonneg h3.1 h4.1
  have hm2 : q * s ≤ 100000 * 1000000 := Int.mul_le_mul h3.2 h4.2 h4.1 (by omega)
  obtain ⟨a1, a2⟩ := h1
  obtain ⟨a3, a4⟩ := h2
  obtain ⟨a5, a6⟩ := h3
  obtain ⟨a7, a8⟩ := h4
  go_enter Try.func62, Try.ntmps62
  go_wp2
  refine bodyPost_ret (v := .agg #[.int .i64 (f + q), .int .i64 (p + q * s)]) (by simp [results, Try.results62, go_sem, World.cell?_setCell_same', World.cell?_setCell_other]) rfl ⟨rfl, ?_⟩
  exact (by repeat (first | (with_reducible exact Below.refl _ _) | (with_reducible refine below_drewN' ?_ _) | (with_reducible refine Below.alloc ?_ (by simp <;> omega) _) | (with_reducible refine Below.setCell ?_ (by simp) _)))
theorem shareM_any (f p : Int) (w : World) (h1 : 0 ≤ f ∧ f ≤ 100000000) (h2 : 0 ≤ p ∧ p ≤ 100000000000000) :
    Calls Try.prog 63 #[.agg #[.int .i64 f, .int .i64 p]] w fun e w' => e = .returned (.int .i64 (if f = 0 then 0 else cdv p f)) ∧ Below w.heap.size w w' := by
  by_cases h0 : f = 0
  · rw [if_pos h0]
    have h0' : (f == 0) = true := by simp [h0]
    go_enter Try.func63, Try.ntmps63
    go_wp2
    go_ret
    exact ⟨rfl, below_box _ _⟩
  · rw [if_neg h0]
    have h0' : (f == 0) = false := by simp [h0]
    go_enter Try.func63, Try.ntmps63
    go_wp2_with fail
    (with_reducible refine (roundedUp_g _ _ _ (by omega) (by omega) (by omega) (by omega)).mono ?_)
    rintro e w' ⟨rfl, rfl⟩
    go_wp2
    go_ret
    exact ⟨rfl, below_box _ _⟩
set_option maxHeartbeats 2000000 in
theorem iMixFlows_any (u : Value) (fl : List Int) (v : Value) (sh : List Int) (w : World) (hu : Row .i64 w u fl) (hfl : fl.length ≤ 1048576) (hv : Row .i64 w v sh) (hsl : sh.length ≤ 1048576) :
    Calls Try.prog 25 #[u, v] w fun e w' => e = .returned (.tuple #[.int .i64 (mxA fl sh), .int .i64 (mxC fl sh)]) ∧ Below w.heap.size w w' := by
  obtain ⟨F, fcap, rfl⟩ := hu.form
  obtain ⟨G, gcap, rfl⟩ := hv.form
  have HU := Lib.hid hu
  have HV := Lib.hid hv
  clear hu hv
  cases h1 : allR 0 100000 fl
  · have HE := Lib.hid (mx_two (fl := fl) (sh := sh) (fun h => by rw [h1] at h; cases h.1))
    go_enter Try.func25, Try.ntmps25
    go_wp2_with fail
    (with_reducible refine (areForward_any _ fl w HU.out (by omega)).mono ?_)
    rintro e w' ⟨rfl, rfl⟩
    rw [h1]
    go_wp2
    go_ret2
    exact ⟨ret_two HE.out.1.symm HE.out.2.symm, Below.refl _ _⟩
  · cases h2 : allR 0 1000000 sh
    · have HE := Lib.hid (mx_two (fl := fl) (sh := sh) (fun h => by rw [h2] at h; cases h.2))
      go_enter Try.func25, Try.ntmps25
      go_wp2_with fail
      (with_reducible refine (areForward_any _ fl w HU.out (by omega)).mono ?_)
      rintro e w' ⟨rfl, rfl⟩
      rw [h1]
      go_wp2_with fail
      (with_reducible refine (areShares_any _ sh w HV.out (by omega)).mono ?_)
      rintro e w' ⟨rfl, rfl⟩
      rw [h2]
      go_wp2
      go_ret2
      exact ⟨ret_two HE.out.1.symm HE.out.2.symm, Below.refl _ _⟩
    · by_cases hle : fl.length = sh.length
      · have t1 : ((fl.length : Int) != (sh.length : Int)) = false := by simp; omega
        by_cases h64 : fl.length ≤ 64
        · have t2 : ¬ ((64 : Int) < (fl.length : Int)) := by omega
          have HE0 := Lib.hid (mx_ok h1 h2 ⟨hle, h64⟩)
          have HLE := Lib.hid hle
          have HA1 := Lib.hid h1
          have HA2 := Lib.hid h2
          clear hle
          go_enter Try.func25, Try.ntmps25
          go_wp2_with fail
          (with_reducible refine (areForward_any _ fl w HU.out (by omega)).mono ?_)
          rintro e w' ⟨rfl, rfl⟩
          rw [h1]
          go_wp2_with fail
          (with_reducible refine (areShares_any _ sh w HV.out (by omega)).mono ?_)
          rintro e w' ⟨rfl, rfl⟩
          rw [h2]
          clear h1 h2
          go_wp2_with fail
          have hWC : (w.alloc (.cells #[.int .i64 0, .int .i64 0] 84)).heap.size = w.heap.size + 1 := by simp
          have z0 : (w.alloc (.cells #[.int .i64 0, .int .i64 0] 84)).cell? ⟨w.heap.size, 0, none⟩ = some (.int .i64 0) ∧ (w.alloc (.cells #[.int .i64 0, .int .i64 0] 84)).cell? ⟨w.heap.size, 1, none⟩ = some (.int .i64 0) ∧ (w.alloc (.cells #[.int .i64 0, .int .i64 0] 84)).frozen? ⟨w.heap.size, 0, none⟩ = false ∧ (w.alloc (.cells #[.int .i64 0, .int .i64 0] 84)).frozen? ⟨w.heap.size, 1, none⟩ = false := by simp
          have Z0 := Lib.hid z0
          have HBW := Lib.hid (below_box w (.cells #[.int .i64 0, .int .i64 0] 84))
          clear z0
          generalize w.alloc (.cells #[.int .i64 0, .int .i64 0] 84) = WC at *
          go_loopw [29] (fun i wr => ∃ k : Nat, k ≤ fl.length ∧ i = .int .i64 k ∧ Hid (wr.cell? ⟨w.heap.size, 0, none⟩ = some (.int .i64 (miF fl k)) ∧ wr.cell? ⟨w.heap.size, 1, none⟩ = some (.int .i64 (miS fl sh k)) ∧ wr.frozen? ⟨w.heap.size, 0, none⟩ = false ∧ wr.frozen? ⟨w.heap.size, 1, none⟩ = false) ∧ Hid (Below w.heap.size w wr)) (fun i wr => fl.length - (intOf i).toNat)
          case atStart => exact ⟨0, by omega, rfl, Z0, HBW⟩
          case round =>
            obtain ⟨k, hk, rfl, HM, HB⟩ := hrel
            obtain ⟨wo, rfl⟩ : ∃ wo : World, wo = wr := ⟨_, rfl⟩
            obtain ⟨m0, m1, fz, fy⟩ := HM.out
            have hmz := World.block_lt_of_cell? _ _ m0
            by_cases hlt : k < fl.length
            · obtain ⟨gb0, go0, e0, -, cg0⟩ := Row.cell HV.out (show k < sh.length by have := HLE.out; omega)
              have hgb0 : gb0 < w.heap.size := World.block_lt_of_cell? _ _ cg0
              have hbd := mi_bd HA1.out HA2.out HLE.out k (by omega)
              obtain ⟨fb, fo, e1, -, cf⟩ := Row.cell (HU.out.below HB.out) (show k < fl.length by omega)
              obtain ⟨gb, go, e2, -, cg⟩ := Row.cell (HV.out.below HB.out) (show k < sh.length by have := HLE.out; omega)
              have hp := allR_get HA1.out (show k < fl.length by omega)
              have hq := allR_get HA2.out (show k < sh.length by have := HLE.out; omega)
              have HN := Lib.hid (And.intro (show miF fl (k + 1) = miF fl k + fl.getD k 0 from rfl) (show miS fl sh (k + 1) = miS fl sh k + fl.getD k 0 * sh.getD k 0 from rfl))
              rw [getD_lt (show k < fl.length by omega)] at cf HN
              rw [getD_lt (show k < sh.length by have := HLE.out; omega)] at cg HN
              have hks : (k : Int) < (sh.length : Int) := by have := HLE.out; omega
              have hkn : k < sh.length := by have := HLE.out; omega
              generalize fl[k] = p at *
              generalize sh[k] = q at *
              have hm1 : 0 ≤ p * q := Int.mul_nonneg hp.1 hq.1
              have hm2 : p * q ≤ 100000 * 1000000 := Int.mul_le_mul hp.2 hq.2 hq.1 (by omega)
              obtain ⟨hp1, hp2⟩ := hp
              obtain ⟨hq1, hq2⟩ := hq
              obtain ⟨⟨hb1, hb2⟩, hb3, hb4⟩ := hbd
              generalize miF fl k = x at *
              generalize miS fl sh k = y at *
              subst e1
              subst e2
              injection e0 with e0
              injection e0 with e01 e02
              subst e01 e02
              have hneg : ¬ (w.heap.size = gb) := by omega
              have HHM := Lib.hid hm1
              clear HM cg0
              have fz0 : wo.drew.frozen? ⟨w.heap.size, 0, none⟩ = false := fz
              have fz1 : wo.drew.frozen? ⟨w.heap.size, 1, none⟩ = false := fy
              have n0' : wo.drew.cell? ⟨w.heap.size, 0, none⟩ = some (.int .i64 x) := m0
              have n1' : wo.drew.cell? ⟨w.heap.size, 1, none⟩ = some (.int .i64 y) := m1
              go_wp2_with fail
              refine wp_region_held (S := fun w' => w'.cell? ⟨gb, go + k, none⟩ = some (.int .i64 q) ∧ Below w.heap.size w w') (by kernel_rfl) ?_
              try (change wpAnyH _ _ _ _ _ _ _ _ (World.drew _))
              have hS0 := (show wo.drew.cell? ⟨gb, go + k, none⟩ = some (.int .i64 q) ∧ Below w.heap.size w wo.drew from ⟨cg, Below.drew HB.out⟩)
              refine gTake 1 (v := ?_) rfl (by kernel_rfl) (by kernel_rfl) (by kernel_rfl) (fun _ _ _ h => h) (by kernel_rfl) ?_ hS0 ?_
              rotate_left
              · (intro W hW; clear hW; go_simp; try with_reducible rfl)
              refine gTake 2 (v := ?_) rfl (by kernel_rfl) (by kernel_rfl) (by kernel_rfl) (fun _ _ _ h => h) (by kernel_rfl) ?_ hS0 ?_
              rotate_left
              · (intro W hW; clear hW; go_simp; try with_reducible rfl)
              refine gTake 3 (v := ?_) rfl (by kernel_rfl) (by kernel_rfl) (by kernel_rfl) (fun _ _ _ h => h) (by kernel_rfl) ?_ hS0 ?_
              rotate_left
              · (intro W hW; clear hW; go_simp; try with_reducible rfl)
              refine gTake 4 (v := ?_) rfl (by kernel_rfl) (by kernel_rfl) (by kernel_rfl) (fun _ _ _ h => h) (by kernel_rfl) ?_ hS0 ?_
              rotate_left
              · (intro W hW; clear hW; go_simp; try with_reducible rfl)
              refine gTake 5 (v := ?_) rfl (by kernel_rfl) (by kernel_rfl) (by kernel_rfl) (fun _ _ _ h => h) (by kernel_rfl) ?_ hS0 ?_
              rotate_left
              · (intro W hW; have q0 := hW.1; clear hW; go_simp; try with_reducible rfl)
              refine gTake 6 (v := ?_) rfl (by kernel_rfl) (by kernel_rfl) (by kernel_rfl) (fun _ _ _ h => h) (by kernel_rfl) ?_ hS0 ?_
              rotate_left
              · (intro W hW; clear hW; go_simp; try with_reducible rfl)
              refine gOne 0 rfl (by kernel_rfl) (by kernel_rfl) (fun K hK => ?_)
              go_simp
              skip
              have hS1 := hS0
              refine hK _ _ hS1 ?_
              clear hK K
              refine gOne 7 rfl (by kernel_rfl) (by kernel_rfl) (fun K hK => ?_)
              go_simp
              go_at_call 62
              (with_reducible refine (with_any x y p q _ ⟨hb1, by omega⟩ ⟨hb3, by omega⟩ ⟨hp1, hp2⟩ ⟨hq1, hq2⟩).mono ?_)
              rintro e wq ⟨rfl, hdq⟩
              have HDQ := Lib.hid hdq
              have f0 : wq.frozen? ⟨w.heap.size, 0, none⟩ = false := (hdq.frozen (p := ⟨w.heap.size, 0, none⟩) hmz).trans fz0
              have f1 : wq.frozen? ⟨w.heap.size, 1, none⟩ = false := (hdq.frozen (p := ⟨w.heap.size, 1, none⟩) hmz).trans fz1
              have n0 := cellK n0' hdq
              have n1 := cellK n1' hdq
              clear hdq
              try go_simp
              have hS2 := (show wq.cell? ⟨gb, go + k, none⟩ = some (.int .i64 q) ∧ Below w.heap.size w wq from ⟨cellK hS1.1 HDQ.out, hS1.2.trans (HDQ.out.mono hS1.2.size)⟩)
              refine hK _ _ hS2 ?_
              clear hK K
              refine gOne 8 rfl (by kernel_rfl) (by kernel_rfl) (fun K hK => ?_)
              go_simp
              skip
              have hS3 := (show ((wq.setCell ⟨w.heap.size, 0, none⟩ (.int .i64 (x + p))).setCell ⟨w.heap.size, 1, none⟩ (.int .i64 (y + p * q))).cell? ⟨gb, go + k, none⟩ = some (.int .i64 q) ∧ Below w.heap.size w ((wq.setCell ⟨w.heap.size, 0, none⟩ (.int .i64 (x + p))).setCell ⟨w.heap.size, 1, none⟩ (.int .i64 (y + p * q))) from ⟨(World.cell?_setCell_other _ _ _ _ (adr_neM hneg)).trans ((World.cell?_setCell_other _ _ _ _ (adr_neM hneg)).trans hS2.1), (hS2.2.setCell (p := ⟨w.heap.size, 0, none⟩) (Nat.le_refl _) _).setCell (p := ⟨w.heap.size, 1, none⟩) (Nat.le_refl _) _⟩)
              refine hK _ _ hS3 ?_
              clear hK K
              refine wpAnyH_done (by kernel_rfl) ?_ _
              go_simp
              go_wp2
              go_roundw
              case rel =>
                refine ⟨k + 1, by omega, by go_num, Lib.hid ⟨?_, ?_, ?_, ?_⟩, Lib.hid hS3.2⟩
                · rw [HN.out.1]; simp [World.cell?_setCell_same', World.cell?_setCell_other, n0, n1]
                · rw [HN.out.2]; simp [World.cell?_setCell_same', World.cell?_setCell_other, n0, n1]
                · exact ((World.frozen?_setCell _ _ _ _).trans (World.frozen?_setCell _ _ _ _)).trans f0
                · exact ((World.frozen?_setCell _ _ _ _).trans (World.frozen?_setCell _ _ _ _)).trans f1
              case measure => simp [intOf]; omega
            · obtain rfl : k = fl.length := by omega
              have hbd := mi_bd HA1.out HA2.out HLE.out fl.length (Nat.le_refl _)
              have HR := Lib.hid (show miR fl sh fl.length = if miF fl fl.length = 0 then 0 else cdv (miS fl sh fl.length) (miF fl fl.length) from rfl)
              generalize miF fl fl.length = x at *
              generalize miS fl sh fl.length = y at *
              obtain ⟨⟨hb1, hb2⟩, hb3, hb4⟩ := hbd
              go_wp2_with fail
              (with_reducible refine (shareM_any x y _ ⟨hb1, by omega⟩ ⟨hb3, by omega⟩).mono ?_)
              rintro e w2 ⟨rfl, hd2⟩
              have HE := Lib.hid (show mxA fl sh = (if x = 0 then 0 else cdv y x) ∧ mxC fl sh = 0 from ⟨HE0.out.1.trans HR.out, HE0.out.2⟩)
              generalize (if x = 0 then 0 else cdv y x) = z at *
              go_wp2
              go_ret2
              exact ⟨ret_two HE.out.1.symm HE.out.2.symm, HB.out.trans (hd2.mono HB.out.size)⟩
        · have t2 : (64 : Int) < (fl.length : Int) := by omega
          have HE := Lib.hid (mx_seven h1 h2 (fun h => h64 h.2))
          clear hle
          go_enter Try.func25, Try.ntmps25
          go_wp2_with fail
          (with_reducible refine (areForward_any _ fl w HU.out (by omega)).mono ?_)
          rintro e w' ⟨rfl, rfl⟩
          rw [h1]
          go_wp2_with fail
          (with_reducible refine (areShares_any _ sh w HV.out (by omega)).mono ?_)
          rintro e w' ⟨rfl, rfl⟩
          rw [h2]
          go_wp2
          go_ret2
          exact ⟨ret_two HE.out.1.symm HE.out.2.symm, Below.refl _ _⟩
      · have t1 : ((fl.length : Int) != (sh.length : Int)) = true := by simp; omega
        have HE := Lib.hid (mx_seven h1 h2 (fun h => hle h.1))
        go_enter Try.func25, Try.ntmps25
        go_wp2_with fail
        (with_reducible refine (areForward_any _ fl w HU.out (by omega)).mono ?_)
        rintro e w' ⟨rfl, rfl⟩
        rw [h1]
        go_wp2_with fail
        (with_reducible refine (areShares_any _ sh w HV.out (by omega)).mono ?_)
        rintro e w' ⟨rfl, rfl⟩
        rw [h2]
        go_wp2
        go_ret2
        exact ⟨ret_two HE.out.1.symm HE.out.2.symm, Below.refl _ _⟩
end Go.Proofs.Ythbofhlfggkolaa
