/-
  Contracts of chapter 14: the longest stay; the model's and the program's. Conditions: those that each theorem states.
-/
import Derived.Test.YtnlkikdgffaeeaaQg
import Derived.Deep.LoopGhost
namespace Go.Proofs.Ytnlkikdgffaeeaa
open Go.RowKit
set_option linter.unusedVariables false
set_option linter.unusedSimpArgs false

/-- What LongestStay returns. -/
def lsP (ts : List Tk) (a f L : Int) (k : Nat) : Bool := decide (L < sumK (duF ts a f) (k + 1))
def lsN (ts : List Tk) (a f L : Int) (n : Nat) : Int := (fsK (lsP ts a f L) n : Nat)
def lsOk (a f L : Int) : Bool := inB a 0 23 && (inB f 0 1439 && decide (0 ≤ L))
def lsA (ts : List Tk) (a f L : Int) : Int := if tsOk ts && lsOk a f L then lsN ts a f L (1440 - f).toNat else 0
def lsB (ts : List Tk) (a f L : Int) : Int := if tsOk ts then (if lsOk a f L then 0 else 2) else 1
theorem lsN_here {ts : List Tk} {a f L : Int} {n k : Nat} (hk : k < n) (h1 : ∀ t, t < k → lsP ts a f L t = false) (h2 : L < sumK (duF ts a f) k + duF ts a f k) : lsN ts a f L n = (k : Int) := by
  unfold lsN
  rw [fsK_eq (Nat.le_of_lt hk) h1 (fun _ => decide_eq_true h2)]
theorem lsN_all {ts : List Tk} {a f L : Int} {n : Nat} (h1 : ∀ t, t < n → lsP ts a f L t = false) : lsN ts a f L n = (n : Int) := by
  unfold lsN
  rw [fsK_eq (Nat.le_refl _) h1 (fun h => absurd h (by omega))]
theorem lsP_no {ts : List Tk} {a f L : Int} {k : Nat} (hb : ∀ t, t < k → lsP ts a f L t = false) (h : ¬ (L < sumK (duF ts a f) k + duF ts a f k)) : ∀ t, t < k + 1 → lsP ts a f L t = false := fun t ht => by
  rcases Nat.lt_or_ge t k with q | q
  · exact hb t q
  · obtain rfl : t = k := by omega
    exact decide_eq_false h
set_option maxHeartbeats 1000000 in
set_option maxRecDepth 100000 in
theorem sLongestStay_any (A : Option Addr) (cap : Nat) (ts : List Tk) (a f L : Int) (w : World) (hr : TkR w A ts) (hl : ts.length ≤ 1048576) :
    Calls Try.prog 40 #[.slice A ts.length cap, .int .i64 a, .int .i64 f, .int .i64 L] w fun e w' => e = .returned (.tuple #[.int .i64 (lsA ts a f L), .int .i64 (lsB ts a f L)]) ∧ Below w.heap.size w w' := by
  have HX := Lib.hid (l14Ok_any A cap ts w hr hl)
  have HR := Lib.hid hr
  clear hr
  cases hok : tsOk ts
  · skip
    have HE := Lib.hid (show lsA ts a f L = 0 ∧ lsB ts a f L = 1 by simp [lsA, lsB, lsOk, hok])
    go_enter Try.func40, Try.ntmps40
    go_wp2_with fail
    (with_reducible refine (HX.out).mono ?_)
    rintro e w1 ⟨rfl, hd⟩
    have HB := Lib.hid hd
    rw [hok]
    clear hd
    go_wp2
    go_ret2
    exact ⟨ret_two HE.out.1.symm HE.out.2.symm, HB.out⟩
  · have HOK := Lib.hid hok
    by_cases h1 : 0 ≤ a ∧ a ≤ 23
    · have i1 := inB_true h1.1 h1.2
      by_cases h2 : 0 ≤ f ∧ f ≤ 1439
      · have i2 := inB_true h2.1 h2.2
        by_cases h3 : 0 ≤ L
        · skip
          obtain ⟨N, hN⟩ : ∃ N : Nat, 1440 - f = (N : Int) := ⟨(1440 - f).toNat, by omega⟩
          have HE := Lib.hid (show lsA ts a f L = lsN ts a f L N ∧ lsB ts a f L = 0 from ⟨by simp [lsA, lsOk, hok, i1, i2, h3, hN], by simp [lsB, lsOk, hok, i1, i2, h3]⟩)
          have hN1 := Int.le_of_eq hN
          have hN2 := Int.le_of_eq hN.symm
          have HND := Lib.hid hN
          obtain ⟨f1, f2⟩ := h2
          have hN3 : N ≤ 1440 := by omega
          clear hN
          have HF := Lib.hid (fun (k : Nat) => duF_bd HOK.out a f k)
          have HS := Lib.hid (fun (k : Nat) (h : k ≤ 1440) => exS_part HOK.out a f h)
          go_enter Try.func40, Try.ntmps40
          go_wp2_with fail
          (with_reducible refine (HX.out).mono ?_)
          rintro e w1 ⟨rfl, hd⟩
          have HB := Lib.hid hd
          rw [hok]
          clear hd
          go_wp2_with (first
                | (go_at_call 63; (with_reducible refine (l14Airway_any _ _).mono ?_); rintro e w' ⟨rfl, rfl⟩)
                | (go_at_call 54; (with_reducible refine (l00In_any _ _ _ _).mono ?_); rintro e w' ⟨rfl, rfl⟩))
          go_loopw [10, 11] (fun x i wr => ∃ k : Nat, k ≤ N ∧ i = .int .i64 (f + (k : Int)) ∧ x = .int .i64 (sumK (duF ts a f) k) ∧ Hid (∀ t, t < k → lsP ts a f L t = false) ∧ Hid (Below w.heap.size w wr)) (fun x i wr => (1440 - intOf i).toNat)
          case atStart => exact ⟨0, by omega, by simp, rfl, Lib.hid (fun t h => absurd h (by omega)), Lib.hid HB.out⟩
          case round =>
            obtain ⟨k, hk, rfl, rfl, HG, hbel⟩ := hrel
            obtain ⟨wo, rfl⟩ : ∃ wo : World, wo = wr := ⟨_, rfl⟩
            obtain ⟨s1, s2⟩ := HS.out k (by omega)
            by_cases hlt : k < N
            · have hlI : f + (k : Int) < 1440 := by omega
              have HA := Lib.hid (show Calls Try.prog 64 #[.slice A ts.length cap, .int .i64 a, .int .i64 (f + (k : Int))] wo fun e w' => e = .returned (.int .i64 (duF ts a f k)) ∧ wo = w' from l14At_any A cap ts a (f + (k : Int)) wo (HR.out.below hbel.out) HOK.out)
              obtain ⟨z1, z2⟩ := HF.out k
              have HN := Lib.hid (show sumK (duF ts a f) (k + 1) = sumK (duF ts a f) k + duF ts a f k from rfl)
              by_cases hc : L < sumK (duF ts a f) k + duF ts a f k
              · have HL := Lib.hid (lsN_here hlt HG.out hc)
                generalize duF ts a f k = z at *
                generalize sumK (duF ts a f) k = x at *
                have HV := Lib.hid (HE.out.1.trans HL.out)
                go_wp2_with fail
                (with_reducible refine (HA.out).mono ?_)
                rintro e w' ⟨rfl, rfl⟩
                go_wp2
                go_ret2
                exact ⟨ret_two (by rw [HV.out]; omega) HE.out.2.symm, hbel.out⟩
              · have HL := Lib.hid (lsP_no HG.out hc)
                generalize duF ts a f k = z at *
                generalize sumK (duF ts a f) k = x at *
                go_wp2_with fail
                (with_reducible refine (HA.out).mono ?_)
                rintro e w' ⟨rfl, rfl⟩
                go_wp2
                go_roundw
                case rel => exact ⟨k + 1, by omega, by congr 1; omega, by rw [HN.out], HL, hbel⟩
                case measure => simp [intOf]; omega
            · obtain rfl : k = N := by omega
              have HV := Lib.hid (HE.out.1.trans (lsN_all HG.out))
              generalize sumK (duF ts a f) k = x at *
              go_wp2
              go_ret2
              exact ⟨ret_two (by rw [HV.out]; omega) HE.out.2.symm, hbel.out⟩
        · skip
          have HE := Lib.hid (show lsA ts a f L = 0 ∧ lsB ts a f L = 2 by simp [lsA, lsB, lsOk, hok, i1, i2, h3])
          have h4 : L < 0 := by omega
          have h5 : ¬ (0 ≤ L) := h3
          clear h3
          go_enter Try.func40, Try.ntmps40
          go_wp2_with fail
          (with_reducible refine (HX.out).mono ?_)
          rintro e w1 ⟨rfl, hd⟩
          have HB := Lib.hid hd
          rw [hok]
          clear hd
          go_wp2_with (first
                | (go_at_call 63; (with_reducible refine (l14Airway_any _ _).mono ?_); rintro e w' ⟨rfl, rfl⟩)
                | (go_at_call 54; (with_reducible refine (l00In_any _ _ _ _).mono ?_); rintro e w' ⟨rfl, rfl⟩))
          go_ret2
          exact ⟨ret_two HE.out.1.symm HE.out.2.symm, HB.out⟩
      · have i2 := inB_false h2
        have HE := Lib.hid (show lsA ts a f L = 0 ∧ lsB ts a f L = 2 by simp [lsA, lsB, lsOk, hok, i2])
        go_enter Try.func40, Try.ntmps40
        go_wp2_with fail
        (with_reducible refine (HX.out).mono ?_)
        rintro e w1 ⟨rfl, hd⟩
        have HB := Lib.hid hd
        rw [hok]
        clear hd
        go_wp2_with (first
              | (go_at_call 63; (with_reducible refine (l14Airway_any _ _).mono ?_); rintro e w' ⟨rfl, rfl⟩)
              | (go_at_call 54; (with_reducible refine (l00In_any _ _ _ _).mono ?_); rintro e w' ⟨rfl, rfl⟩))
        go_ret2
        exact ⟨ret_two HE.out.1.symm HE.out.2.symm, HB.out⟩
    · have i1 := inB_false h1
      have HE := Lib.hid (show lsA ts a f L = 0 ∧ lsB ts a f L = 2 by simp [lsA, lsB, lsOk, hok, i1])
      go_enter Try.func40, Try.ntmps40
      go_wp2_with fail
      (with_reducible refine (HX.out).mono ?_)
      rintro e w1 ⟨rfl, hd⟩
      have HB := Lib.hid hd
      rw [hok]
      clear hd
      go_wp2_with (first
            | (go_at_call 63; (with_reducible refine (l14Airway_any _ _).mono ?_); rintro e w' ⟨rfl, rfl⟩)
            | (go_at_call 54; (with_reducible refine (l00In_any _ _ _ _).mono ?_); rintro e w' ⟨rfl, rfl⟩))
      go_ret2
      exact ⟨ret_two HE.out.1.symm HE.out.2.symm, HB.out⟩
set_option maxHeartbeats 1000000 in
set_option maxRecDepth 100000 in
theorem iLongestStay_any (A : Option Addr) (cap : Nat) (ts : List Tk) (a f L : Int) (w : World) (hr : TkR w A ts) (hl : ts.length ≤ 1048576) :
    Calls Try.prog 41 #[.slice A ts.length cap, .int .i64 a, .int .i64 f, .int .i64 L] w fun e w' => e = .returned (.tuple #[.int .i64 (lsA ts a f L), .int .i64 (lsB ts a f L)]) ∧ Below w.heap.size w w' := by
  have HX := Lib.hid (iValidDustings_any A cap ts w hr hl)
  have HR := Lib.hid hr
  clear hr
  cases hok : tsOk ts
  · skip
    have HE := Lib.hid (show lsA ts a f L = 0 ∧ lsB ts a f L = 1 by simp [lsA, lsB, lsOk, hok])
    go_enter Try.func41, Try.ntmps41
    go_wp2_with fail
    (with_reducible refine (HX.out).mono ?_)
    rintro e w1 ⟨rfl, hd⟩
    have HB := Lib.hid hd
    rw [hok]
    clear hd
    go_wp2
    go_ret2
    exact ⟨ret_two HE.out.1.symm HE.out.2.symm, HB.out⟩
  · have HOK := Lib.hid hok
    by_cases h1 : 0 ≤ a ∧ a ≤ 23
    · have i1 := inB_true h1.1 h1.2
      by_cases h2 : 0 ≤ f ∧ f ≤ 1439
      · have i2 := inB_true h2.1 h2.2
        by_cases h3 : 0 ≤ L
        · skip
          obtain ⟨N, hN⟩ : ∃ N : Nat, 1440 - f = (N : Int) := ⟨(1440 - f).toNat, by omega⟩
          have HE := Lib.hid (show lsA ts a f L = lsN ts a f L N ∧ lsB ts a f L = 0 from ⟨by simp [lsA, lsOk, hok, i1, i2, h3, hN], by simp [lsB, lsOk, hok, i1, i2, h3]⟩)
          have hN1 := Int.le_of_eq hN
          have hN2 := Int.le_of_eq hN.symm
          have HND := Lib.hid hN
          obtain ⟨f1, f2⟩ := h2
          have hN3 : N ≤ 1440 := by omega
          clear hN
          have HF := Lib.hid (fun (k : Nat) => duF_bd HOK.out a f k)
          have HS := Lib.hid (fun (k : Nat) (h : k ≤ 1440) => exS_part HOK.out a f h)
          go_enter Try.func41, Try.ntmps41
          go_wp2_with fail
          (with_reducible refine (HX.out).mono ?_)
          rintro e w1 ⟨rfl, hd⟩
          have HB := Lib.hid hd
          rw [hok]
          clear hd
          go_wp2_with fail
          (with_reducible refine (areIdx_c24 a w1 _ _ (by simp)).mono ?_)
          rintro e w2 ⟨rfl, hd⟩
          rw [i1]
          have HB2 := Lib.hid (HB.out.trans (hd.mono HB.out.size))
          clear hd
          go_wp2_with fail
          (with_reducible refine (areIdx_c1440 f w2 _ _ (by simp)).mono ?_)
          rintro e w3 ⟨rfl, hd⟩
          rw [i2]
          have HB3 := Lib.hid (HB2.out.trans (hd.mono HB2.out.size))
          clear hd
          have HN := Lib.hid (show (1440 : Int) = f + (N : Int) by omega)
          go_wp2_with fail
          (with_reducible refine (during_any A cap ts a f 1440 N w3 (HR.out.below HB3.out) HOK.out ⟨by omega, by omega⟩ HN.out hN3).mono ?_)
          rintro e w4 ⟨u, rfl, ho, hd⟩
          have HB4 := Lib.hid (HB3.out.trans (hd.mono HB3.out.size))
          clear hd
          obtain ⟨g, c, rfl, HO⟩ : ∃ g c, u = .slice (some ⟨g, 0, none⟩) N c ∧ Hid (w4.ownsRow w3.heap.size 2 1 (.slice (some ⟨g, 0, none⟩) N c) N (intsV (duL ts a f N))) := by
            have h := ho
            unfold OwnI at h
            rw [duL_len] at h
            rcases id h.2 with ⟨rfl, h0⟩ | ⟨g, c, cur, rfl, hr⟩
            · omega
            · exact ⟨g, c, rfl, Lib.hid h⟩
          clear ho
          have HCE := Lib.hid (fun (k : Nat) (hk : k < N) => show w4.cell? ⟨g, k, none⟩ = some (.int .i64 (duF ts a f k)) from by
            rw [HO.out.cellAt k (by omega)]; simp [intsV, duL, hk])
          go_wp2
          go_loop [10, 36] (fun x i => ∃ k : Nat, k ≤ N ∧ i = .int .i64 (k : Int) ∧ x = .int .i64 (sumK (duF ts a f) k) ∧ Hid (∀ t, t < k → lsP ts a f L t = false)) (fun x i => N - (intOf i).toNat)
          case atStart => exact ⟨0, by omega, rfl, rfl, Lib.hid (fun t h => absurd h (by omega))⟩
          case round =>
            obtain ⟨k, hk, rfl, rfl, HG⟩ := hrel
            obtain ⟨s1, s2⟩ := HS.out k (by omega)
            by_cases hlt : k < N
            · have hlI : (k : Int) < (N : Int) := by omega
              have hce := HCE.out k hlt
              obtain ⟨z1, z2⟩ := HF.out k
              have HN2 := Lib.hid (show sumK (duF ts a f) (k + 1) = sumK (duF ts a f) k + duF ts a f k from rfl)
              by_cases hc : L < sumK (duF ts a f) k + duF ts a f k
              · have HL := Lib.hid (lsN_here hlt HG.out hc)
                generalize duF ts a f k = z at *
                generalize sumK (duF ts a f) k = x at *
                have HV := Lib.hid (HE.out.1.trans HL.out)
                go_wp2
                go_ret2
                exact ⟨ret_two HV.out.symm HE.out.2.symm, HB4.out⟩
              · have HL := Lib.hid (lsP_no HG.out hc)
                generalize duF ts a f k = z at *
                generalize sumK (duF ts a f) k = x at *
                go_wp2
                go_round
                case rel => exact ⟨k + 1, by omega, by go_num, by rw [HN2.out], HL⟩
                case measure => simp [intOf]; omega
            · obtain rfl : k = N := by omega
              have HV := Lib.hid (HE.out.1.trans (lsN_all HG.out))
              generalize sumK (duF ts a f) k = x at *
              go_wp2
              go_ret2
              exact ⟨ret_two (by rw [HV.out]; omega) HE.out.2.symm, HB4.out⟩
        · skip
          have HE := Lib.hid (show lsA ts a f L = 0 ∧ lsB ts a f L = 2 by simp [lsA, lsB, lsOk, hok, i1, i2, h3])
          have h4 : L < 0 := by omega
          have h5 : ¬ (0 ≤ L) := h3
          clear h3
          go_enter Try.func41, Try.ntmps41
          go_wp2_with fail
          (with_reducible refine (HX.out).mono ?_)
          rintro e w1 ⟨rfl, hd⟩
          have HB := Lib.hid hd
          rw [hok]
          clear hd
          go_wp2_with fail
          (with_reducible refine (areIdx_c24 a w1 _ _ (by simp)).mono ?_)
          rintro e w2 ⟨rfl, hd⟩
          rw [i1]
          have HB2 := Lib.hid (HB.out.trans (hd.mono HB.out.size))
          clear hd
          go_wp2_with fail
          (with_reducible refine (areIdx_c1440 f w2 _ _ (by simp)).mono ?_)
          rintro e w3 ⟨rfl, hd⟩
          rw [i2]
          have HB3 := Lib.hid (HB2.out.trans (hd.mono HB2.out.size))
          clear hd
          go_wp2
          go_ret2
          exact ⟨ret_two HE.out.1.symm HE.out.2.symm, HB3.out⟩
      · have i2 := inB_false h2
        have HE := Lib.hid (show lsA ts a f L = 0 ∧ lsB ts a f L = 2 by simp [lsA, lsB, lsOk, hok, i2])
        go_enter Try.func41, Try.ntmps41
        go_wp2_with fail
        (with_reducible refine (HX.out).mono ?_)
        rintro e w1 ⟨rfl, hd⟩
        have HB := Lib.hid hd
        rw [hok]
        clear hd
        go_wp2_with fail
        (with_reducible refine (areIdx_c24 a w1 _ _ (by simp)).mono ?_)
        rintro e w2 ⟨rfl, hd⟩
        rw [i1]
        have HB2 := Lib.hid (HB.out.trans (hd.mono HB.out.size))
        clear hd
        go_wp2_with fail
        (with_reducible refine (areIdx_c1440 f w2 _ _ (by simp)).mono ?_)
        rintro e w3 ⟨rfl, hd⟩
        rw [i2]
        have HB3 := Lib.hid (HB2.out.trans (hd.mono HB2.out.size))
        clear hd
        go_wp2
        go_ret2
        exact ⟨ret_two HE.out.1.symm HE.out.2.symm, HB3.out⟩
    · have i1 := inB_false h1
      have HE := Lib.hid (show lsA ts a f L = 0 ∧ lsB ts a f L = 2 by simp [lsA, lsB, lsOk, hok, i1])
      go_enter Try.func41, Try.ntmps41
      go_wp2_with fail
      (with_reducible refine (HX.out).mono ?_)
      rintro e w1 ⟨rfl, hd⟩
      have HB := Lib.hid hd
      rw [hok]
      clear hd
      go_wp2_with fail
      (with_reducible refine (areIdx_c24 a w1 _ _ (by simp)).mono ?_)
      rintro e w2 ⟨rfl, hd⟩
      rw [i1]
      have HB2 := Lib.hid (HB.out.trans (hd.mono HB.out.size))
      clear hd
      go_wp2
      go_ret2
      exact ⟨ret_two HE.out.1.symm HE.out.2.symm, HB2.out⟩
end Go.Proofs.Ytnlkikdgffaeeaa
