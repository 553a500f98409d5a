/-
  Contracts of chapter 14: dust of flows and its settling; the model's and the program's. Conditions: those that each theorem states.
-/
import Derived.Test.YtnlkikdgffaeeaaPw
import Derived.Deep.LoopGhost
namespace Go.Proofs.Ytnlkikdgffaeeaa
open Go.RowKit
set_option linter.unusedVariables false
set_option linter.unusedSimpArgs false

/-- What is left of dust behind one second, and behind n of them. -/
def sst (se q : Int) : Int := q - divR (q * se) 1000000
def sdN (se : Int) : Nat → Int → Int
  | 0, q => q
  | n + 1, q => sst se (sdN se n q)
theorem sst_bd {se q : Int} (h1 : 0 ≤ se) (h2 : se ≤ 1000000) (hq : 0 ≤ q) : 0 ≤ sst se q ∧ sst se q ≤ q := by
  unfold sst
  have hp : 0 ≤ q * se := Int.mul_nonneg hq h1
  have hp2 : q * se ≤ q * 1000000 := Int.mul_le_mul_of_nonneg_left h2 hq
  rw [divR_pp _ _ hp (by omega)]
  generalize q * se = x at *
  omega
theorem sdN_bd {se q : Int} (h1 : 0 ≤ se) (h2 : se ≤ 1000000) (hq : 0 ≤ q) : ∀ n, 0 ≤ sdN se n q ∧ sdN se n q ≤ q
  | 0 => ⟨hq, Int.le_refl _⟩
  | n + 1 => by
    have h := sdN_bd h1 h2 hq n
    have := sst_bd h1 h2 h.1
    show 0 ≤ sst se (sdN se n q) ∧ sst se (sdN se n q) ≤ q
    omega
theorem sst_mul {se q : Int} (h1 : 0 ≤ se) (h2 : se ≤ 1000000) (hq : 0 ≤ q) (hq2 : q ≤ 1000000) : 0 ≤ q * se ∧ q * se ≤ 1000000000000 := by
  have hp : 0 ≤ q * se := Int.mul_nonneg hq h1
  have hp2 : q * se ≤ q * 1000000 := Int.mul_le_mul_of_nonneg_left h2 hq
  omega
theorem sdN_stay {se q : Int} (h : sst se q = q) : ∀ n, sdN se n q = q
  | 0 => rfl
  | n + 1 => by show sst se (sdN se n q) = q; rw [sdN_stay h n, h]
theorem sdN_add (se q : Int) (m : Nat) : ∀ n, sdN se (m + n) q = sdN se n (sdN se m q)
  | 0 => rfl
  | n + 1 => by show sst se (sdN se (m + n) q) = sst se (sdN se n (sdN se m q)); rw [sdN_add se q m n]
theorem sdN_end {se q x : Int} {k N : Nat} (hx : sdN se k q = x) (h : sst se x = x) (hk : k ≤ N) : sdN se N q = x := by
  obtain ⟨d, rfl⟩ : ∃ d, N = k + d := ⟨N - k, by omega⟩
  rw [sdN_add, hx, sdN_stay h]
theorem sst_zero (se : Int) : sst se 0 = 0 := by unfold sst; rw [Int.zero_mul, divR_zero]; rfl
theorem sst_less {se q : Int} (h : divR (q * se) 1000000 = 0) : sst se q = q := by unfold sst; rw [h]; omega
/-- The dust of a rate in a flow. -/
def duG (r q : Int) : Int := if 1000000 < divR (100000 * r) q then 1000000 else divR (100000 * r) q
/-- What the functions return. -/
def dofA (r q : Int) : Int := if inB r 0 1000000 && inB q 1 100000 then duG r q else 0
def dofB (r q : Int) : Int := if inB r 0 1000000 && inB q 1 100000 then 0 else 2
def setA (q se t : Int) : Int := if inB q 0 1000000 && (inB se 0 1000000 && inB t 0 10000) then sdN se t.toNat q else 0
def setB (q se t : Int) : Int := if inB q 0 1000000 && (inB se 0 1000000 && inB t 0 10000) then 0 else 2
theorem l14Dust_any (n : Int) (w : World) : Calls Try.prog 53 #[.int .i64 n] w fun e w' => e = .returned (.bool (inB n 0 1000000)) ∧ w = w' := by
  go_enter Try.func53, Try.ntmps53
  go_wp2_with (go_at_call 54; (with_reducible refine (l00In_any _ _ _ _).mono ?_); rintro e w' ⟨rfl, rfl⟩)
  go_ret
  exact ⟨rfl, rfl⟩
theorem l14Settling_any (n : Int) (w : World) : Calls Try.prog 59 #[.int .i64 n] w fun e w' => e = .returned (.bool (inB n 0 1000000)) ∧ w = w' := by
  go_enter Try.func59, Try.ntmps59
  go_wp2_with (go_at_call 54; (with_reducible refine (l00In_any _ _ _ _).mono ?_); rintro e w' ⟨rfl, rfl⟩)
  go_ret
  exact ⟨rfl, rfl⟩
theorem areDusts_any (v : Value) (xs : List Int) (w : World) (hv : Row .i64 w v xs) (hl : xs.length ≤ 1048576) :
    Calls Try.prog 49 #[v] w fun e w' => e = .returned (.bool (allR 0 1000000 xs)) ∧ w = w' := by
  obtain ⟨B, cap, rfl⟩ := hv.form
  have HV := Lib.hid hv
  clear hv
  go_enter Try.func49, Try.ntmps49
  go_wp2_with (go_at_call 57; (with_reducible refine (within64_any _ _ _ xs _ HV.out (by omega)).mono ?_); rintro e w' ⟨rfl, rfl⟩)
  go_ret
  exact ⟨rfl, rfl⟩
theorem areDusts_oneB (x : Int) (W : World) (T : TypeId) (b : Nat) (hb : b = W.heap.size) :
    Calls Try.prog 49 #[.slice (some ⟨b, 0, none⟩) 1 1] (W.alloc (.cells #[.int .i64 x] T)) fun e w' => e = .returned (.bool (inB x 0 1000000)) ∧ Below W.heap.size W w' := by
  have h := areDusts_any (.slice (some ⟨b, 0, none⟩) 1 1) [x] _ (row_here .i64 W [x] T b 1 1 hb rfl) (by simp)
  rw [allR_one] at h
  exact h.mono fun _ _ ⟨a, h⟩ => ⟨a, h ▸ below_box _ _⟩
theorem areSettling_any (se : Int) (v : Value) (xs : List Int) (w : World) (hv : Row .i64 w v xs) (hl : xs.length ≤ 1048576) :
    Calls Try.prog 61 #[.int .i64 se, v] w fun e w' => e = .returned (.bool (inB se 0 1000000 && allR 0 10000 xs)) ∧ Below w.heap.size w w' := by
  obtain ⟨B, cap, rfl⟩ := hv.form
  have HV := Lib.hid hv
  clear hv
  cases hse : inB se 0 1000000
  · go_enter Try.func61, Try.ntmps61
    go_wp2_with fail
    (with_reducible refine (within64_oneB _ _ se w _ _ (by simp)).mono ?_)
    rintro e w1 ⟨rfl, hd1⟩
    rw [hse]
    go_wp2
    go_ret
    exact ⟨rfl, hd1⟩
  · go_enter Try.func61, Try.ntmps61
    go_wp2_with fail
    (with_reducible refine (within64_oneB _ _ se w _ _ (by simp)).mono ?_)
    rintro e w1 ⟨rfl, hd1⟩
    rw [hse]
    have HD := Lib.hid hd1
    clear hd1
    go_wp2_with (go_at_call 57; (with_reducible refine (within64_any _ _ _ xs _ (HV.out.below HD.out) (by omega)).mono ?_); rintro e w' ⟨rfl, rfl⟩)
    go_ret
    exact ⟨rfl, HD.out⟩
theorem areSettling_oneB (se x : Int) (W : World) (T : TypeId) (b : Nat) (hb : b = W.heap.size) :
    Calls Try.prog 61 #[.int .i64 se, .slice (some ⟨b, 0, none⟩) 1 1] (W.alloc (.cells #[.int .i64 x] T)) fun e w' => e = .returned (.bool (inB se 0 1000000 && inB x 0 10000)) ∧ Below W.heap.size W w' := by
  have h := areSettling_any se (.slice (some ⟨b, 0, none⟩) 1 1) [x] _ (row_here .i64 W [x] T b 1 1 hb rfl) (by simp)
  rw [allR_one] at h
  exact h.mono fun _ _ ⟨a, h⟩ => ⟨a, (below_box _ _).trans (h.mono (by simp))⟩
set_option maxHeartbeats 1000000 in
theorem l14Settled_any (q se : Int) (N : Nat) (w : World) (h1 : 0 ≤ se ∧ se ≤ 1000000) (h2 : 0 ≤ q ∧ q ≤ 1000000) (hN : N ≤ 10000) :
    Calls Try.prog 60 #[.int .i64 q, .int .i64 se, .int .i64 (N : Int)] w fun e w' => e = .returned (.int .i64 (sdN se N q)) ∧ w = w' := by
  have H1 := Lib.hid h1
  have H2 := Lib.hid h2
  clear h1 h2
  go_enter Try.func60, Try.ntmps60
  go_wp2
  go_loopw [0, 7] (fun x i wr => ∃ k : Nat, k ≤ N ∧ x = .int .i64 (sdN se k q) ∧ i = .int .i64 k ∧ wr = w) (fun x i wr => N - (intOf i).toNat)
  case atStart => exact ⟨0, by omega, rfl, rfl, rfl⟩
  case round =>
    obtain ⟨k, hk, rfl, rfl, rfl⟩ := hrel
    have hb := sdN_bd H1.out.1 H1.out.2 H2.out.1 k
    have hm := sst_mul H1.out.1 H1.out.2 hb.1 (Int.le_trans hb.2 H2.out.2)
    have hs := sst_bd H1.out.1 H1.out.2 hb.1
    have hq2 := H2.out.2
    have HN := Lib.hid (show sdN se (k + 1) q = sdN se k q - divR (sdN se k q * se) 1000000 from rfl)
    have HEND := Lib.hid (fun (x : Int) (hx : sdN se k q = x) (h : sst se x = x) => sdN_end hx h hk)
    unfold sst at hs
    by_cases hlt : k < N
    · have hlI : (k : Int) < (N : Int) := by omega
      obtain ⟨x, hx⟩ : ∃ x, sdN se k q = x := ⟨_, rfl⟩
      rw [hx] at hb hm hs HN
      replace HEND := Lib.hid (HEND.out x hx)
      rw [hx]
      clear hx
      by_cases h0 : 0 < x
      · by_cases hl : divR (x * se) 1000000 = 0
        · have HF := Lib.hid (HEND.out (sst_less hl))
          go_wp2_with (go_at_call 56; (with_reducible refine (l01Div_any _ _ _ (by omega) (by omega) (by omega) (by omega) (by omega)).mono ?_); rintro e w' ⟨rfl, rfl⟩; rw [hl])
          go_ret
          exact ⟨ret_int HF.out.symm, rfl⟩
        · obtain ⟨d, hdv⟩ : ∃ d, divR (x * se) 1000000 = d := ⟨_, rfl⟩
          rw [hdv] at hs HN hl
          have HDV := Lib.hid hdv
          clear hdv
          go_wp2_with (go_at_call 56; (with_reducible refine (l01Div_any _ _ _ (by omega) (by omega) (by omega) (by omega) (by omega)).mono ?_); rintro e w' ⟨rfl, rfl⟩; rw [HDV.out])
          go_roundw
          case rel => exact ⟨k + 1, by omega, by rw [HN.out], by go_num, (by first | rfl | trivial)⟩
          case measure => simp [intOf]; omega
      · obtain rfl : x = 0 := by omega
        have HF := Lib.hid (HEND.out (sst_zero se))
        clear hm hs
        go_wp2
        go_ret
        exact ⟨ret_int HF.out.symm, rfl⟩
    · obtain rfl : k = N := by omega
      clear hm hs
      obtain ⟨x, hx⟩ : ∃ x, sdN se k q = x := ⟨_, rfl⟩
      have HX := Lib.hid hx
      rw [hx] at hb ⊢
      clear hx HN HEND
      go_wp2
      go_ret
      exact ⟨ret_int HX.out.symm, rfl⟩
set_option maxHeartbeats 1000000 in
theorem lessened_any (q se : Int) (N : Nat) (w : World) (h1 : 0 ≤ se ∧ se ≤ 1000000) (h2 : 0 ≤ q ∧ q ≤ 1000000) (hN : N ≤ 10000) :
    Calls Try.prog 62 #[.int .i64 q, .int .i64 se, .int .i64 (N : Int)] w fun e w' => e = .returned (.int .i64 (sdN se N q)) ∧ Below w.heap.size w w' := by
  have H1 := Lib.hid h1
  have H2 := Lib.hid h2
  clear h1 h2
  go_enter Try.func62, Try.ntmps62
  go_wp2
  go_loopw [0, 8] (fun x i wr => ∃ k : Nat, k ≤ N ∧ x = .int .i64 (sdN se k q) ∧ i = .int .i64 k ∧ Hid (Below w.heap.size w wr)) (fun x i wr => N - (intOf i).toNat)
  case atStart => exact ⟨0, by omega, rfl, rfl, Lib.hid (Below.refl _ _)⟩
  case round =>
    obtain ⟨k, hk, rfl, rfl, HW⟩ := hrel
    have hb := sdN_bd H1.out.1 H1.out.2 H2.out.1 k
    have hm := sst_mul H1.out.1 H1.out.2 hb.1 (Int.le_trans hb.2 H2.out.2)
    have hs := sst_bd H1.out.1 H1.out.2 hb.1
    have hq2 := H2.out.2
    have HN := Lib.hid (show sdN se (k + 1) q = sdN se k q - divR (sdN se k q * se) 1000000 from rfl)
    unfold sst at hs
    by_cases hlt : k < N
    · have hlI : (k : Int) < (N : Int) := by omega
      generalize sdN se k q = x at *
      go_wp2_with (go_at_call 58; (with_reducible refine (nearest_any _ _ _ (by omega) (by omega) (by omega) (by omega)).mono ?_); rintro e w' ⟨rfl, n, rfl⟩)
      go_roundw
      case rel => exact ⟨k + 1, by omega, by rw [HN.out], by go_num, Lib.hid (below_drewN' HW.out n)⟩
      case measure => simp [intOf]; omega
    · obtain rfl : k = N := by omega
      go_wp2
      go_ret
      exact ⟨rfl, HW.out⟩
theorem sDustOf_any (r q : Int) (w : World) :
    Calls Try.prog 21 #[.int .i64 r, .int .i64 q] w fun e w' => e = .returned (.tuple #[.int .i64 (dofA r q), .int .i64 (dofB r q)]) ∧ Below w.heap.size w w' := by
  by_cases h1 : 0 ≤ r ∧ r ≤ 1000000
  · have i1 := inB_true h1.1 h1.2
    by_cases h2 : 1 ≤ q ∧ q ≤ 100000
    · have i2 := inB_true h2.1 h2.2
      have HE := Lib.hid (show dofA r q = duG r q ∧ dofB r q = 0 by simp [dofA, dofB, i1, i2])
      have HX := Lib.hid (show duG r q = (if 1000000 < divR (100000 * r) q then 1000000 else divR (100000 * r) q) from rfl)
      obtain ⟨a1, a2⟩ := h1
      obtain ⟨a3, a4⟩ := h2
      go_enter Try.func21, Try.ntmps21
      go_wp2_with (first
            | (go_at_call 53; (with_reducible refine (l14Dust_any _ _).mono ?_); rintro e w' ⟨rfl, rfl⟩)
            | (go_at_call 54; (with_reducible refine (l00In_any _ _ _ _).mono ?_); rintro e w' ⟨rfl, rfl⟩)
            | (go_at_call 56; (with_reducible refine (l01Div_any _ _ _ (by omega) (by omega) (by omega) (by omega) (by omega)).mono ?_); rintro e w' ⟨rfl, rfl⟩)
            | (go_at_call 55; (with_reducible refine (l00Min_any _ _ _).mono ?_); rintro e w' ⟨rfl, rfl⟩; rw [← HX.out]))
      go_ret2
      exact ⟨ret_two HE.out.1.symm HE.out.2.symm, Below.refl _ _⟩
    · have i2 := inB_false h2
      have HE := Lib.hid (show dofA r q = 0 ∧ dofB r q = 2 by simp [dofA, dofB, i2])
      go_enter Try.func21, Try.ntmps21
      go_wp2_with (first
            | (go_at_call 53; (with_reducible refine (l14Dust_any _ _).mono ?_); rintro e w' ⟨rfl, rfl⟩)
            | (go_at_call 54; (with_reducible refine (l00In_any _ _ _ _).mono ?_); rintro e w' ⟨rfl, rfl⟩))
      go_ret2
      exact ⟨ret_two HE.out.1.symm HE.out.2.symm, Below.refl _ _⟩
  · have i1 := inB_false h1
    have HE := Lib.hid (show dofA r q = 0 ∧ dofB r q = 2 by simp [dofA, dofB, i1])
    go_enter Try.func21, Try.ntmps21
    go_wp2_with (first
          | (go_at_call 53; (with_reducible refine (l14Dust_any _ _).mono ?_); rintro e w' ⟨rfl, rfl⟩))
    go_ret2
    exact ⟨ret_two HE.out.1.symm HE.out.2.symm, Below.refl _ _⟩
theorem iDustOf_any (r q : Int) (w : World) :
    Calls Try.prog 22 #[.int .i64 r, .int .i64 q] w fun e w' => e = .returned (.tuple #[.int .i64 (dofA r q), .int .i64 (dofB r q)]) ∧ Below w.heap.size w w' := by
  by_cases h1 : 0 ≤ r ∧ r ≤ 1000000
  · have i1 := inB_true h1.1 h1.2
    by_cases h2 : 1 ≤ q ∧ q ≤ 100000
    · have i2 := inB_true h2.1 h2.2
      have HE := Lib.hid (show dofA r q = duG r q ∧ dofB r q = 0 by simp [dofA, dofB, i1, i2])
      obtain ⟨x, hx⟩ : ∃ x, divR (100000 * r) q = x := ⟨_, rfl⟩
      have HX := Lib.hid (show duG r q = (if 1000000 < x then 1000000 else x) by unfold duG; rw [hx])
      obtain ⟨a1, a2⟩ := h1
      obtain ⟨a3, a4⟩ := h2
      by_cases hc : 1000000 < x
      · have HY := Lib.hid (show duG r q = 1000000 by rw [HX.out]; simp [hc])
        go_enter Try.func22, Try.ntmps22
        go_wp2_with fail
        (with_reducible refine (areDusts_oneB r w _ _ (by simp)).mono ?_)
        rintro e w1 ⟨rfl, hd1⟩
        have HB1 := Lib.hid hd1
        clear hd1
        go_wp2_with fail
        (with_reducible refine (within64_oneB _ _ q w1 _ _ (by simp)).mono ?_)
        rintro e w2 ⟨rfl, hd2⟩
        have HB2 := Lib.hid (HB1.out.trans (hd2.mono HB1.out.size))
        clear hd2
        go_wp2_with fail
        (with_reducible refine (nearest_any _ _ _ (by omega) (by omega) (by omega) (by omega)).mono ?_)
        rintro e w' ⟨rfl, n, rfl⟩
        rw [hx]
        go_wp2
        go_ret2
        exact ⟨ret_two (by rw [HE.out.1, HY.out]; try first | rfl | (simp; omega) | (simp [hc]; omega)) HE.out.2.symm, below_drewN' HB2.out n⟩
      · have HY := Lib.hid (show duG r q = x by rw [HX.out]; simp [hc])
        go_enter Try.func22, Try.ntmps22
        go_wp2_with fail
        (with_reducible refine (areDusts_oneB r w _ _ (by simp)).mono ?_)
        rintro e w1 ⟨rfl, hd1⟩
        have HB1 := Lib.hid hd1
        clear hd1
        go_wp2_with fail
        (with_reducible refine (within64_oneB _ _ q w1 _ _ (by simp)).mono ?_)
        rintro e w2 ⟨rfl, hd2⟩
        have HB2 := Lib.hid (HB1.out.trans (hd2.mono HB1.out.size))
        clear hd2
        go_wp2_with fail
        (with_reducible refine (nearest_any _ _ _ (by omega) (by omega) (by omega) (by omega)).mono ?_)
        rintro e w' ⟨rfl, n, rfl⟩
        rw [hx]
        go_wp2
        go_ret2
        exact ⟨ret_two (by rw [HE.out.1, HY.out]; try first | rfl | (simp; omega) | (simp [hc]; omega)) HE.out.2.symm, below_drewN' HB2.out n⟩
    · have i2 := inB_false h2
      have HE := Lib.hid (show dofA r q = 0 ∧ dofB r q = 2 by simp [dofA, dofB, i2])
      go_enter Try.func22, Try.ntmps22
      go_wp2_with fail
      (with_reducible refine (areDusts_oneB r w _ _ (by simp)).mono ?_)
      rintro e w1 ⟨rfl, hd1⟩
      have HB1 := Lib.hid hd1
      clear hd1
      go_wp2_with fail
      (with_reducible refine (within64_oneB _ _ q w1 _ _ (by simp)).mono ?_)
      rintro e w2 ⟨rfl, hd2⟩
      have HB2 := Lib.hid (HB1.out.trans (hd2.mono HB1.out.size))
      clear hd2
      go_wp2
      go_ret2
      exact ⟨ret_two HE.out.1.symm HE.out.2.symm, HB2.out⟩
  · have i1 := inB_false h1
    have HE := Lib.hid (show dofA r q = 0 ∧ dofB r q = 2 by simp [dofA, dofB, i1])
    go_enter Try.func22, Try.ntmps22
    go_wp2_with fail
    (with_reducible refine (areDusts_oneB r w _ _ (by simp)).mono ?_)
    rintro e w1 ⟨rfl, hd1⟩
    have HB1 := Lib.hid hd1
    clear hd1
    go_wp2
    go_ret2
    exact ⟨ret_two HE.out.1.symm HE.out.2.symm, HB1.out⟩
theorem sSettledAfter_any (q se t : Int) (w : World) :
    Calls Try.prog 23 #[.int .i64 q, .int .i64 se, .int .i64 t] w fun e w' => e = .returned (.tuple #[.int .i64 (setA q se t), .int .i64 (setB q se t)]) ∧ Below w.heap.size w w' := by
  by_cases h1 : 0 ≤ q ∧ q ≤ 1000000
  · have i1 := inB_true h1.1 h1.2
    by_cases h2 : 0 ≤ se ∧ se ≤ 1000000
    · have i2 := inB_true h2.1 h2.2
      by_cases h3 : 0 ≤ t ∧ t ≤ 10000
      · have i3 := inB_true h3.1 h3.2
        have HE := Lib.hid (show setA q se t = sdN se t.toNat q ∧ setB q se t = 0 by simp [setA, setB, i1, i2, i3])
        obtain ⟨N, rfl⟩ : ∃ N : Nat, t = (N : Int) := ⟨t.toNat, by omega⟩
        have HE2 := Lib.hid (show setA q se (N : Int) = sdN se N q ∧ setB q se (N : Int) = 0 from ⟨HE.out.1, HE.out.2⟩)
        clear HE
        go_enter Try.func23, Try.ntmps23
        go_wp2_with (first
              | (go_at_call 53; (with_reducible refine (l14Dust_any _ _).mono ?_); rintro e w' ⟨rfl, rfl⟩)
              | (go_at_call 59; (with_reducible refine (l14Settling_any _ _).mono ?_); rintro e w' ⟨rfl, rfl⟩)
              | (go_at_call 54; (with_reducible refine (l00In_any _ _ _ _).mono ?_); rintro e w' ⟨rfl, rfl⟩)
              | (go_at_call 60; (with_reducible refine (l14Settled_any q se N _ h2 h1 (by omega)).mono ?_); rintro e w' ⟨rfl, rfl⟩))
        go_ret2
        exact ⟨ret_two HE2.out.1.symm HE2.out.2.symm, Below.refl _ _⟩
      · have i3 := inB_false h3
        have HE := Lib.hid (show setA q se t = 0 ∧ setB q se t = 2 by simp [setA, setB, i3])
        go_enter Try.func23, Try.ntmps23
        go_wp2_with (first
              | (go_at_call 53; (with_reducible refine (l14Dust_any _ _).mono ?_); rintro e w' ⟨rfl, rfl⟩)
              | (go_at_call 59; (with_reducible refine (l14Settling_any _ _).mono ?_); rintro e w' ⟨rfl, rfl⟩)
              | (go_at_call 54; (with_reducible refine (l00In_any _ _ _ _).mono ?_); rintro e w' ⟨rfl, rfl⟩))
        go_ret2
        exact ⟨ret_two HE.out.1.symm HE.out.2.symm, Below.refl _ _⟩
    · have i2 := inB_false h2
      have HE := Lib.hid (show setA q se t = 0 ∧ setB q se t = 2 by simp [setA, setB, i2])
      go_enter Try.func23, Try.ntmps23
      go_wp2_with (first
            | (go_at_call 53; (with_reducible refine (l14Dust_any _ _).mono ?_); rintro e w' ⟨rfl, rfl⟩)
            | (go_at_call 59; (with_reducible refine (l14Settling_any _ _).mono ?_); rintro e w' ⟨rfl, rfl⟩))
      go_ret2
      exact ⟨ret_two HE.out.1.symm HE.out.2.symm, Below.refl _ _⟩
  · have i1 := inB_false h1
    have HE := Lib.hid (show setA q se t = 0 ∧ setB q se t = 2 by simp [setA, setB, i1])
    go_enter Try.func23, Try.ntmps23
    go_wp2_with (first
          | (go_at_call 53; (with_reducible refine (l14Dust_any _ _).mono ?_); rintro e w' ⟨rfl, rfl⟩))
    go_ret2
    exact ⟨ret_two HE.out.1.symm HE.out.2.symm, Below.refl _ _⟩
theorem iSettledAfter_any (q se t : Int) (w : World) :
    Calls Try.prog 24 #[.int .i64 q, .int .i64 se, .int .i64 t] w fun e w' => e = .returned (.tuple #[.int .i64 (setA q se t), .int .i64 (setB q se t)]) ∧ Below w.heap.size w w' := by
  by_cases h1 : 0 ≤ q ∧ q ≤ 1000000
  · have i1 := inB_true h1.1 h1.2
    by_cases h2 : 0 ≤ se ∧ se ≤ 1000000
    · have i2 := inB_true h2.1 h2.2
      by_cases h3 : 0 ≤ t ∧ t ≤ 10000
      · have i3 := inB_true h3.1 h3.2
        have HE := Lib.hid (show setA q se t = sdN se t.toNat q ∧ setB q se t = 0 by simp [setA, setB, i1, i2, i3])
        obtain ⟨N, rfl⟩ : ∃ N : Nat, t = (N : Int) := ⟨t.toNat, by omega⟩
        have HE2 := Lib.hid (show setA q se (N : Int) = sdN se N q ∧ setB q se (N : Int) = 0 from ⟨HE.out.1, HE.out.2⟩)
        clear HE
        go_enter Try.func24, Try.ntmps24
        go_wp2_with fail
        (with_reducible refine (areDusts_oneB q w _ _ (by simp)).mono ?_)
        rintro e w1 ⟨rfl, hd1⟩
        have HB1 := Lib.hid hd1
        clear hd1
        go_wp2_with fail
        (with_reducible refine (areSettling_oneB se (N : Int) w1 _ _ (by simp)).mono ?_)
        rintro e w2 ⟨rfl, hd2⟩
        have HB2 := Lib.hid (HB1.out.trans (hd2.mono HB1.out.size))
        clear hd2
        rw [i2, i3]
        go_wp2_with fail
        (with_reducible refine (lessened_any q se N _ h2 h1 (by omega)).mono ?_)
        rintro e w3 ⟨rfl, hd3⟩
        have HB3 := Lib.hid (HB2.out.trans (hd3.mono HB2.out.size))
        clear hd3
        go_wp2
        go_ret2
        exact ⟨ret_two HE2.out.1.symm HE2.out.2.symm, HB3.out⟩
      · have i3 := inB_false h3
        have HE := Lib.hid (show setA q se t = 0 ∧ setB q se t = 2 by simp [setA, setB, i3])
        go_enter Try.func24, Try.ntmps24
        go_wp2_with fail
        (with_reducible refine (areDusts_oneB q w _ _ (by simp)).mono ?_)
        rintro e w1 ⟨rfl, hd1⟩
        have HB1 := Lib.hid hd1
        clear hd1
        go_wp2_with fail
        (with_reducible refine (areSettling_oneB se t w1 _ _ (by simp)).mono ?_)
        rintro e w2 ⟨rfl, hd2⟩
        have HB2 := Lib.hid (HB1.out.trans (hd2.mono HB1.out.size))
        clear hd2
        rw [i2, i3]
        go_wp2
        go_ret2
        exact ⟨ret_two HE.out.1.symm HE.out.2.symm, HB2.out⟩
    · have i2 := inB_false h2
      have HE := Lib.hid (show setA q se t = 0 ∧ setB q se t = 2 by simp [setA, setB, i2])
      go_enter Try.func24, Try.ntmps24
      go_wp2_with fail
      (with_reducible refine (areDusts_oneB q w _ _ (by simp)).mono ?_)
      rintro e w1 ⟨rfl, hd1⟩
      have HB1 := Lib.hid hd1
      clear hd1
      go_wp2_with fail
      (with_reducible refine (areSettling_oneB se t w1 _ _ (by simp)).mono ?_)
      rintro e w2 ⟨rfl, hd2⟩
      have HB2 := Lib.hid (HB1.out.trans (hd2.mono HB1.out.size))
      clear hd2
      rw [i2]
      go_wp2
      go_ret2
      exact ⟨ret_two HE.out.1.symm HE.out.2.symm, HB2.out⟩
  · have i1 := inB_false h1
    have HE := Lib.hid (show setA q se t = 0 ∧ setB q se t = 2 by simp [setA, setB, i1])
    go_enter Try.func24, Try.ntmps24
    go_wp2_with fail
    (with_reducible refine (areDusts_oneB q w _ _ (by simp)).mono ?_)
    rintro e w1 ⟨rfl, hd1⟩
    have HB1 := Lib.hid hd1
    clear hd1
    go_wp2
    go_ret2
    exact ⟨ret_two HE.out.1.symm HE.out.2.symm, HB1.out⟩
end Go.Proofs.Ytnlkikdgffaeeaa
