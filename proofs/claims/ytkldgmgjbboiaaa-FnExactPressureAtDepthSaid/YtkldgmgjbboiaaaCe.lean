/-
  Contracts of chapter 2: the pressure at a depth, the program's. Conditions: those that each theorem states.
-/
import Derived.Test.YtkldgmgjbboiaaaCd
namespace Go.Proofs.Ytkldgmgjbboiaaa
open Go.RowKit
set_option linter.unusedVariables false

/-- The block of an air whose pressure goes down. -/
def AirB (w : World) (b : Nat) (t q : Int) : Prop := w.heap[b]? = some (.cells #[.int .i64 t, .int .i64 q, .int .i64 0] 25 (0, 0))
theorem AirB.cells {w : World} {b : Nat} {t q : Int} (h : AirB w b t q) : (w.cell? ⟨b, 0, none⟩ = some (.int .i64 t) ∧ w.cell? ⟨b, 1, none⟩ = some (.int .i64 q) ∧ w.cell? ⟨b, 2, none⟩ = some (.int .i64 0)) ∧ w.frozen? ⟨b, 1, none⟩ = false ∧ b < w.heap.size := by
  unfold AirB at h
  refine ⟨⟨by simp [World.cell?, h], by simp [World.cell?, h], by simp [World.cell?, h]⟩, by simp [World.frozen?, h], ?_⟩
  rcases Nat.lt_or_ge b w.heap.size with h' | h'
  · exact h'
  · simp [Array.getElem?_eq_none h'] at h
theorem AirB.alloc {w : World} {b : Nat} {t q : Int} (h : AirB w b t q) (o : Obj) : AirB (w.alloc o) b t q := by
  have hl := h.cells.2.2
  unfold AirB at h ⊢
  rw [← h]
  show (w.heap.push o)[b]? = _
  rw [Array.getElem?_push_lt hl, Array.getElem?_eq_getElem hl]
theorem AirB.drew {w : World} {b : Nat} {t q : Int} (h : AirB w b t q) (n : Nat) : AirB (w.drewN n) b t q := h
theorem AirB.set {w : World} {b : Nat} {t q : Int} (h : AirB w b t q) (q' : Int) : AirB (w.setCell ⟨b, 1, none⟩ (.int .i64 q')) b t q' := by
  have hlt := h.cells.2.2
  unfold AirB at h ⊢
  have h' : w.heap[b] = .cells #[.int .i64 t, .int .i64 q, .int .i64 0] 25 (0, 0) := by simpa [Array.getElem?_eq_getElem hlt] using h
  show (w.heap.modify b _)[b]? = _
  rw [Array.getElem?_eq_getElem (by simpa using hlt), Array.getElem_modify_self, h']
  rfl
theorem AirB.new (w : World) (t q : Int) : AirB (w.alloc (.cells #[.int .i64 t, .int .i64 q, .int .i64 0] 25)) w.heap.size t q := by
  unfold AirB
  show (w.heap.push _)[w.heap.size]? = _
  simp
set_option maxHeartbeats 4000000 in
theorem iPressureAtDepth_any (t p d : Int) (w : World) :
    Calls Try.prog 15 #[.int .i64 t, .int .i64 p, .int .i64 d] w fun e w' => e = .returned (.tuple #[.int .i64 (prA t p d), .int .i64 (prB t p d)]) ∧ Below w.heap.size w w' := by
  cases hok : airOk t p 0
  · have HE := Lib.hid (show prA t p d = 0 ∧ prB t p d = 2 by
      have := hok; rw [airOk0] at this
      simp [prA, prB, prOk, this])
    go_enter Try.func15, Try.ntmps15
    go_wp2_with (first
          | (go_at_call 11; (with_reducible refine (iValidAir_any t p 0 _).mono ?_); rintro e w' ⟨rfl, rfl⟩)
          | (go_at_call 33; (with_reducible refine (within64_one _ _ _ _).mono ?_); rintro e w' ⟨rfl, rfl⟩))
    go_ret2
    exact ⟨ret_two HE.out.1.symm HE.out.2.symm, (by repeat (first | (with_reducible exact Below.refl _ _) | (with_reducible refine below_drewN' ?_ _) | (with_reducible refine Below.alloc ?_ (by simp <;> omega) _) | (with_reducible refine Below.setCell ?_ (by simp) _)))⟩
  · by_cases h3 : 0 ≤ d ∧ d ≤ 3000
    · have i3 := inB_true h3.1 h3.2
      have hok2 : prOk t p d = true := by
        have := hok; rw [airOk0] at this
        simp [prOk, this, i3]
      obtain ⟨⟨h1, h2⟩, _⟩ := airOk_iff.1 hok
      have HF := Lib.hid (show prV t p d = downR t 31 p d from rfl)
      have HA := Lib.hid (show prA t p d = (if 150000 < prV t p d then 0 else prV t p d) ∧ prB t p d = (if 150000 < prV t p d then 6 else 0) by simp [prA, prB, hok2])
      clear hok2
      generalize prV t p d = F at *
      go_enter Try.func15, Try.ntmps15
      go_wp2_with (first
            | (go_at_call 11; (with_reducible refine (iValidAir_any t p 0 _).mono ?_); rintro e w' ⟨rfl, rfl⟩)
            | (go_at_call 33; (with_reducible refine (within64_one _ _ _ _).mono ?_); rintro e w' ⟨rfl, rfl⟩))
      have hA0 : AirB ((w.alloc (.cells #[.int .i64 t, .int .i64 p, .int .i64 0] 25)).alloc (.cells #[.int .i64 t, .int .i64 p, .int .i64 0] 25)) w.heap.size t p := (AirB.new w t p).alloc _
      have hB0 : Below w.heap.size w ((w.alloc (.cells #[.int .i64 t, .int .i64 p, .int .i64 0] 25)).alloc (.cells #[.int .i64 t, .int .i64 p, .int .i64 0] 25)) := (below_box _ _).alloc (by simp) _
      have HA0 := Lib.hid hA0
      have HB0 := Lib.hid hB0
      clear hA0 hB0
      go_loopw [9] (fun x wr => ∃ (k : Nat) (q : Int), x = .int .i64 (d - 100 * (k : Int)) ∧ (0 ≤ q ∧ q ≤ 150000) ∧ k ≤ 31 ∧ 100 * (k : Int) < d + 100 ∧ Hid (F = downR t (31 - k) q (d - 100 * (k : Int)) ∧ q + 9000 * (31 - (k : Int)) ≤ 429000 ∧ AirB wr w.heap.size t q ∧ Below w.heap.size w wr)) (fun x wr => (intOf x).toNat)
      case atStart => exact ⟨0, p, by simp, ⟨by omega, by omega⟩, by omega, by omega, Lib.hid ⟨by rw [HF.out]; simp, by omega, HA0.out, HB0.out⟩⟩
      case round =>
        obtain ⟨k, q, rfl, ⟨hq0, hq1⟩, hk, hkd, H⟩ := hrel
        have hH := H.out
        obtain ⟨hF, hq2, hAir, hBel⟩ := hH
        obtain ⟨⟨c0, c1, c2⟩, f1, hz⟩ := hAir.cells
        have HF2 := Lib.hid hF
        have HAir := Lib.hid hAir
        have HBel := Lib.hid hBel
        clear hF hAir hBel
        by_cases hlt : 0 < d - 100 * (k : Int)
        · have hs1 : (wr.cell? ⟨w.heap.size, 1, none⟩).isSome = true := by rw [c1]; rfl
          by_cases hg : d - 100 * (k : Int) ≤ 100
          · have HM := Lib.hid (show min (d - 100 * (k : Int)) 100 = d - 100 * (k : Int) by omega)
            obtain ⟨⟨s1, s2⟩, s3, s4⟩ : (0 ≤ 981 * (d - 100 * (k : Int)) * densR t q ∧ 981 * (d - 100 * (k : Int)) * densR t q ≤ 600000000) ∧ (0 ≤ divR (981 * (d - 100 * (k : Int)) * densR t q) 100000 ∧ divR (981 * (d - 100 * (k : Int)) * densR t q) 100000 ≤ 9000) := step_bd h1 hq0 (h := (d - 100 * (k : Int))) (by omega) (by omega)
            have W1 := Lib.hid (show IntKind.i64.wrap (981 * (d - 100 * (k : Int))) = 981 * (d - 100 * (k : Int)) from IntWalk.i64_in _ (by omega))
            have W2 := Lib.hid (show IntKind.i64.wrap (981 * (d - 100 * (k : Int)) * densR t q) = 981 * (d - 100 * (k : Int)) * densR t q from IntWalk.i64_in _ (by omega))
            have W3 := Lib.hid (show IntKind.i64.wrap (q + divR (981 * (d - 100 * (k : Int)) * densR t q) 100000) = q + divR (981 * (d - 100 * (k : Int)) * densR t q) 100000 from IntWalk.i64_in _ (by omega))
            have hG : 0 ≤ (d - 100 * (k : Int)) ∧ (d - 100 * (k : Int)) ≤ 100 := by omega
            have HN := Lib.hid (show F = downR t (31 - (k + 1)) (q + divR (981 * (d - 100 * (k : Int)) * densR t q) 100000) (d - 100 * ((k + 1 : Nat) : Int)) by
              have hH := HF2.out
              rw [show 31 - k = (31 - (k + 1)) + 1 by omega, downR_step _ (by omega), HM.out] at hH
              rw [hH, show d - 100 * (k : Int) - 100 = d - 100 * ((k + 1 : Nat) : Int) by omega]
              rfl)
            by_cases hc : 150000 < q + divR (981 * (d - 100 * (k : Int)) * densR t q) 100000
            · have hge := downR_ge h1 (31 - (k + 1)) (q + divR (981 * (d - 100 * (k : Int)) * densR t q) 100000) (d - 100 * ((k + 1 : Nat) : Int)) (by omega) (by omega)
              rw [← HN.out] at hge
              have HE := Lib.hid (show prA t p d = 0 ∧ prB t p d = 6 by rw [HA.out.1, HA.out.2, if_pos (by omega), if_pos (by omega)]; exact ⟨rfl, rfl⟩)
              clear hge
              go_wp2
              have w1 := W1.out
              have w2 := W2.out
              have w3 := W3.out
              go_region_with ((first
                | (go_at_call 29; refine (dryDensity_any t q 0 _ h1.1 h1.2 (by omega) (by omega)).mono ?_; rintro e w' ⟨rfl, n, rfl⟩)
                | (go_at_call 34; refine (nearest_any _ _ _ (by omega) (by omega) (by omega) (by omega)).mono ?_; rintro e w' ⟨rfl, m, rfl⟩)))
              all_goals
                clear w1 w2 w3
                go_wp2
                go_ret2
                have hB := HBel.out
                exact ⟨ret_two HE.out.1.symm HE.out.2.symm, (Below.setCell (below_drewN' (Below.alloc hB (Nat.le_of_lt hz) _) _) (show w.heap.size ≤ w.heap.size from Nat.le_refl _) _)⟩
            · go_wp2
              have w1 := W1.out
              have w2 := W2.out
              have w3 := W3.out
              go_region_with ((first
                | (go_at_call 29; refine (dryDensity_any t q 0 _ h1.1 h1.2 (by omega) (by omega)).mono ?_; rintro e w' ⟨rfl, n, rfl⟩)
                | (go_at_call 34; refine (nearest_any _ _ _ (by omega) (by omega) (by omega) (by omega)).mono ?_; rintro e w' ⟨rfl, m, rfl⟩)))
              all_goals
                clear w1 w2 w3
                go_wp2
                go_roundw
                case rel =>
                  have hB := HBel.out
                  have hA := HAir.out
                  exact ⟨k + 1, q + divR (981 * (d - 100 * (k : Int)) * densR t q) 100000, by rw [show d - 100 * (k : Int) - 100 = d - 100 * ((k + 1 : Nat) : Int) by omega], ⟨by omega, by omega⟩, by omega, by omega, Lib.hid ⟨HN.out, by omega, (by repeat (first | (with_reducible assumption) | (with_reducible refine AirB.drew ?_ _) | (with_reducible refine AirB.alloc ?_ _) | (with_reducible refine AirB.set (q := q) ?_ _))), (Below.setCell (below_drewN' (Below.alloc hB (Nat.le_of_lt hz) _) _) (show w.heap.size ≤ w.heap.size from Nat.le_refl _) _)⟩⟩
                case measure => simp [intOf]; omega
          · have HM := Lib.hid (show min (d - 100 * (k : Int)) 100 = 100 by omega)
            obtain ⟨⟨s1, s2⟩, s3, s4⟩ : (0 ≤ 98100 * densR t q ∧ 98100 * densR t q ≤ 600000000) ∧ (0 ≤ divR (98100 * densR t q) 100000 ∧ divR (98100 * densR t q) 100000 ≤ 9000) := step_bd h1 hq0 (h := 100) (by omega) (by omega)
            have W1 := Lib.hid (show IntKind.i64.wrap (98100) = 98100 from IntWalk.i64_in _ (by omega))
            have W2 := Lib.hid (show IntKind.i64.wrap (98100 * densR t q) = 98100 * densR t q from IntWalk.i64_in _ (by omega))
            have W3 := Lib.hid (show IntKind.i64.wrap (q + divR (98100 * densR t q) 100000) = q + divR (98100 * densR t q) 100000 from IntWalk.i64_in _ (by omega))
            have hG : 0 ≤ 100 ∧ 100 ≤ 100 := by omega
            have HN := Lib.hid (show F = downR t (31 - (k + 1)) (q + divR (98100 * densR t q) 100000) (d - 100 * ((k + 1 : Nat) : Int)) by
              have hH := HF2.out
              rw [show 31 - k = (31 - (k + 1)) + 1 by omega, downR_step _ (by omega), HM.out] at hH
              rw [hH, show d - 100 * (k : Int) - 100 = d - 100 * ((k + 1 : Nat) : Int) by omega]
              rfl)
            by_cases hc : 150000 < q + divR (98100 * densR t q) 100000
            · have hge := downR_ge h1 (31 - (k + 1)) (q + divR (98100 * densR t q) 100000) (d - 100 * ((k + 1 : Nat) : Int)) (by omega) (by omega)
              rw [← HN.out] at hge
              have HE := Lib.hid (show prA t p d = 0 ∧ prB t p d = 6 by rw [HA.out.1, HA.out.2, if_pos (by omega), if_pos (by omega)]; exact ⟨rfl, rfl⟩)
              clear hge
              go_wp2
              have w1 := W1.out
              have w2 := W2.out
              have w3 := W3.out
              go_region_with ((first
                | (go_at_call 29; refine (dryDensity_any t q 0 _ h1.1 h1.2 (by omega) (by omega)).mono ?_; rintro e w' ⟨rfl, n, rfl⟩)
                | (go_at_call 34; refine (nearest_any _ _ _ (by omega) (by omega) (by omega) (by omega)).mono ?_; rintro e w' ⟨rfl, m, rfl⟩)))
              all_goals
                clear w1 w2 w3
                go_wp2
                go_ret2
                have hB := HBel.out
                exact ⟨ret_two HE.out.1.symm HE.out.2.symm, (Below.setCell (below_drewN' (Below.alloc hB (Nat.le_of_lt hz) _) _) (show w.heap.size ≤ w.heap.size from Nat.le_refl _) _)⟩
            · go_wp2
              have w1 := W1.out
              have w2 := W2.out
              have w3 := W3.out
              go_region_with ((first
                | (go_at_call 29; refine (dryDensity_any t q 0 _ h1.1 h1.2 (by omega) (by omega)).mono ?_; rintro e w' ⟨rfl, n, rfl⟩)
                | (go_at_call 34; refine (nearest_any _ _ _ (by omega) (by omega) (by omega) (by omega)).mono ?_; rintro e w' ⟨rfl, m, rfl⟩)))
              all_goals
                clear w1 w2 w3
                go_wp2
                go_roundw
                case rel =>
                  have hB := HBel.out
                  have hA := HAir.out
                  exact ⟨k + 1, q + divR (98100 * densR t q) 100000, by rw [show d - 100 * (k : Int) - 100 = d - 100 * ((k + 1 : Nat) : Int) by omega], ⟨by omega, by omega⟩, by omega, by omega, Lib.hid ⟨HN.out, by omega, (by repeat (first | (with_reducible assumption) | (with_reducible refine AirB.drew ?_ _) | (with_reducible refine AirB.alloc ?_ _) | (with_reducible refine AirB.set (q := q) ?_ _))), (Below.setCell (below_drewN' (Below.alloc hB (Nat.le_of_lt hz) _) _) (show w.heap.size ≤ w.heap.size from Nat.le_refl _) _)⟩⟩
                case measure => simp [intOf]; omega
        · have hF := HF2.out
          rw [downR_done _ (by omega)] at hF
          subst hF
          have HE := Lib.hid (show prA t p d = F ∧ prB t p d = 0 by rw [HA.out.1, HA.out.2, if_neg (by omega), if_neg (by omega)]; exact ⟨rfl, rfl⟩)
          go_wp2
          go_ret2
          exact ⟨ret_two HE.out.1.symm HE.out.2.symm, HBel.out⟩
    · have i3 := inB_false h3
      have HE := Lib.hid (show prA t p d = 0 ∧ prB t p d = 2 by simp [prA, prB, prOk, i3])
      clear h3
      go_enter Try.func15, Try.ntmps15
      go_wp2_with (first
            | (go_at_call 11; (with_reducible refine (iValidAir_any t p 0 _).mono ?_); rintro e w' ⟨rfl, rfl⟩)
            | (go_at_call 33; (with_reducible refine (within64_one _ _ _ _).mono ?_); rintro e w' ⟨rfl, rfl⟩))
      go_ret2
      exact ⟨ret_two HE.out.1.symm HE.out.2.symm, (by repeat (first | (with_reducible exact Below.refl _ _) | (with_reducible refine below_drewN' ?_ _) | (with_reducible refine Below.alloc ?_ (by simp <;> omega) _) | (with_reducible refine Below.setCell ?_ (by simp) _)))⟩
end Go.Proofs.Ytkldgmgjbboiaaa
