/-
  Contracts of chapter 6: whether curves and fans are valid; the model's and the program's. Conditions: those that each theorem states.
-/
import Derived.Test.YtcnpddmghjjhjaaVb
import Derived.Test.YtcnpddmghjjhjaaVa
import Derived.Test.YtcnpddmghjjhjaaRg
import Derived.Test.YtcnpddmghjjhjaaBe
namespace Go.Proofs.Ytcnpddmghjjhjaa
open Go.RowKit
set_option linter.unusedVariables false
set_option linter.unusedSimpArgs false

/-- A good row's cells. -/
theorem RowsR.two {w : World} {A : Option Addr} {xs : List (List Int)} (h : RowsR w A xs) {k : Nat} (hk : k < xs.length) (h2 : xs[k].length = 2) :
    ∃ b off b' off' cap, A = some ⟨b, off, none⟩ ∧ w.cell? ⟨b, off + k, none⟩ = some (.slice (some ⟨b', off', none⟩) 2 cap) ∧ w.cell? ⟨b', off', none⟩ = some (.int .i64 (cx xs k)) ∧ w.cell? ⟨b', off' + 1, none⟩ = some (.int .i64 (cy xs k)) := by
  obtain ⟨b, off, A', cap, rfl, hc, hr⟩ := h.row hk
  obtain ⟨b', off', rfl, -, c0⟩ := RowW.cell hr (j := 0) (by omega)
  obtain ⟨b2, off2, e2, -, c1⟩ := RowW.cell hr (j := 1) (by omega)
  injection e2 with e2
  injection e2 with e3 e4
  subst e3
  subst e4
  rw [h2] at hc
  have e : xs.getD k [] = xs[k] := by simp [List.getD, hk]
  exact ⟨b, off, b', off', cap, rfl, hc, by unfold cx; rw [e]; exact c0, by unfold cy; rw [e]; exact c1⟩
set_option maxRecDepth 100000 in
set_option maxHeartbeats 8000000 in
theorem l06Curve_any (A : Option Addr) (cap : Nat) (xs : List (List Int)) (w : World) (hr : RowsR w A xs) (hl : xs.length ≤ 1048576) (hx : ∀ r ∈ xs, r.length ≤ 1048576) :
    Calls Try.prog 82 #[.slice A xs.length cap] w fun e w' => e = .returned (.bool (curveOk xs)) ∧ Below w.heap.size w w' := by
  have HR := Lib.hid hr
  have HX := Lib.hid hx
  clear hr hx
  go_enter Try.func82, Try.ntmps82
  go_wp2
  go_loopw [3] (fun i wr => ∃ k : Nat, k ≤ xs.length ∧ i = .int .i64 k ∧ Hid (∀ j, j < k → goodAt xs j = true) ∧ Below w.heap.size w wr) (fun i wr => xs.length - (intOf i).toNat)
  case atStart => exact ⟨0, by omega, rfl, Lib.hid (fun j hj => absurd hj (by omega)), Below.refl _ _⟩
  case round =>
    obtain ⟨k, hk, rfl, HG, hbel⟩ := hrel
    by_cases hlt : k < xs.length
    · have hke : xs.getD k [] = xs[k] := by simp [List.getD, hlt]
      obtain ⟨wo, rfl⟩ : ∃ wo : World, wo = wr := ⟨_, rfl⟩
      by_cases h2 : xs[k].length = 2
      · obtain ⟨b, off, b', off', c1, rfl, hc, hc0, hc1⟩ := (HR.out.below hbel).two hlt h2
        by_cases i0 : 0 ≤ cx xs k ∧ cx xs k ≤ 100000
        · have j0 := inB_true i0.1 i0.2
          by_cases i1 : 0 ≤ cy xs k ∧ cy xs k ≤ 10000
          · have j1 := inB_true i1.1 i1.2
            have HRW := Lib.hid (show rowOk (xs.getD k []) = true from rowOk_iff.2 ⟨by rw [hke]; exact h2, i0, i1⟩)
            by_cases k0 : k = 0
            · have HF := Lib.hid (show goodAt xs k = true by unfold goodAt; rw [HRW.out, k0]; rfl)
              have hki : ¬ (0 < (k : Int)) := by omega
              have hkn : ¬ (0 < k) := by omega
              clear hke h2 i0 i1 k0
              generalize cx xs k = x at *
              generalize cy xs k = y at *
              go_wp2_with fail
              refine wp_region_held (S := fun w' => w'.cell? ⟨b', off', none⟩ = some (.int .i64 x) ∧ w'.cell? ⟨b', off' + 1, none⟩ = some (.int .i64 y) ∧ Below wo.heap.size wo w') (by kernel_rfl) ?_
              try (change wpAnyH _ _ _ _ _ _ _ _ (World.drew _))
              have hS0 := (show wo.drew.cell? ⟨b', off', none⟩ = some (.int .i64 x) ∧ wo.drew.cell? ⟨b', off' + 1, none⟩ = some (.int .i64 y) ∧ Below wo.heap.size wo wo.drew from ⟨hc0, hc1, Below.drew (Below.refl _ _)⟩)
              refine gTake 0 (v := ?_) rfl (by kernel_rfl) (by kernel_rfl) (by kernel_rfl) (fun _ _ _ h => h) (by kernel_rfl) ?_ hS0 ?_
              rotate_left
              · (intro W hW; clear hW; go_simp; try with_reducible rfl)
              refine gTake 1 (v := ?_) rfl (by kernel_rfl) (by kernel_rfl) (by kernel_rfl) (fun _ _ _ h => h) (by kernel_rfl) ?_ hS0 ?_
              rotate_left
              · (intro W hW; clear hW; go_simp; try with_reducible rfl)
              refine gTake 2 (v := ?_) rfl (by kernel_rfl) (by kernel_rfl) (by kernel_rfl) (fun _ _ _ h => h) (by kernel_rfl) ?_ hS0 ?_
              rotate_left
              · (intro W hW; clear hW; go_simp; try with_reducible rfl)
              refine gTake 3 (v := ?_) rfl (by kernel_rfl) (by kernel_rfl) (by kernel_rfl) (fun _ _ _ h => h) (by kernel_rfl) ?_ hS0 ?_
              rotate_left
              · (intro W hW; clear hW; go_simp; try with_reducible rfl)
              refine gTake 4 (v := ?_) rfl (by kernel_rfl) (by kernel_rfl) (by kernel_rfl) (fun _ _ _ h => h) (by kernel_rfl) ?_ hS0 ?_
              rotate_left
              · (intro W hW; clear hW; go_simp; try with_reducible rfl)
              refine gTake 5 (v := ?_) rfl (by kernel_rfl) (by kernel_rfl) (by kernel_rfl) (fun _ _ _ h => h) (by kernel_rfl) ?_ hS0 ?_
              rotate_left
              · (intro W hW; clear hW; go_simp; try with_reducible rfl)
              refine gTake 6 (v := ?_) rfl (by kernel_rfl) (by kernel_rfl) (by kernel_rfl) (fun _ _ _ h => h) (by kernel_rfl) ?_ hS0 ?_
              rotate_left
              · (intro W hW; have q0 := hW.1; have q1 := hW.2.1; clear hW; go_simp; try with_reducible rfl)
              refine gOne 7 rfl (by kernel_rfl) (by kernel_rfl) (fun K hK => ?_)
              go_simp
              go_at_call 67
              (with_reducible refine (l00In_any _ _ _ _).mono ?_)
              rintro e w' ⟨rfl, rfl⟩
              try go_simp
              have hS1 := hS0
              refine hK _ _ hS1 ?_
              clear hK K
              refine gTake 8 (v := ?_) rfl (by kernel_rfl) (by kernel_rfl) (by kernel_rfl) (fun _ _ _ h => h) (by kernel_rfl) ?_ hS1 ?_
              rotate_left
              · (intro W hW; clear hW; go_simp; try with_reducible rfl)
              refine gTake 9 (v := ?_) rfl (by kernel_rfl) (by kernel_rfl) (by kernel_rfl) (fun _ _ _ h => h) (by kernel_rfl) ?_ hS1 ?_
              rotate_left
              · (intro W hW; clear hW; go_simp; try with_reducible rfl)
              refine gTake 10 (v := ?_) rfl (by kernel_rfl) (by kernel_rfl) (by kernel_rfl) (fun _ _ _ h => h) (by kernel_rfl) ?_ hS1 ?_
              rotate_left
              · (intro W hW; clear hW; go_simp; try with_reducible rfl)
              refine gTake 11 (v := ?_) rfl (by kernel_rfl) (by kernel_rfl) (by kernel_rfl) (fun _ _ _ h => h) (by kernel_rfl) ?_ hS1 ?_
              rotate_left
              · (intro W hW; clear hW; go_simp; try with_reducible rfl)
              refine gTake 12 (v := ?_) rfl (by kernel_rfl) (by kernel_rfl) (by kernel_rfl) (fun _ _ _ h => h) (by kernel_rfl) ?_ hS1 ?_
              rotate_left
              · (intro W hW; clear hW; go_simp; try with_reducible rfl)
              refine gTake 13 (v := ?_) rfl (by kernel_rfl) (by kernel_rfl) (by kernel_rfl) (fun _ _ _ h => h) (by kernel_rfl) ?_ hS1 ?_
              rotate_left
              · (intro W hW; have q0 := hW.1; have q1 := hW.2.1; clear hW; go_simp; try with_reducible rfl)
              refine gOne 14 rfl (by kernel_rfl) (by kernel_rfl) (fun K hK => ?_)
              go_simp
              go_at_call 67
              (with_reducible refine (l00In_any _ _ _ _).mono ?_)
              rintro e w' ⟨rfl, rfl⟩
              try go_simp
              have hS2 := hS1
              refine hK _ _ hS2 ?_
              clear hK K
              refine gTake 15 (v := ?_) rfl (by kernel_rfl) (by kernel_rfl) (by kernel_rfl) (fun _ _ _ h => h) (by kernel_rfl) ?_ hS2 ?_
              rotate_left
              · (intro W hW; clear hW; go_simp; try with_reducible rfl)
              refine gTake 16 (v := ?_) rfl (by kernel_rfl) (by kernel_rfl) (by kernel_rfl) (fun _ _ _ h => h) (by kernel_rfl) ?_ hS2 ?_
              rotate_left
              · (intro W hW; clear hW; go_simp; try with_reducible rfl)
              refine gTake 17 (v := ?_) rfl (by kernel_rfl) (by kernel_rfl) (by kernel_rfl) (fun _ _ _ h => h) (by kernel_rfl) ?_ hS2 ?_
              rotate_left
              · (intro W hW; clear hW; go_simp; try with_reducible rfl)
              refine gTake 18 (v := ?_) rfl (by kernel_rfl) (by kernel_rfl) (by kernel_rfl) (fun _ _ _ h => h) (by kernel_rfl) ?_ hS2 ?_
              rotate_left
              · (intro W hW; clear hW; go_simp; try with_reducible rfl)
              refine gTake 19 (v := ?_) rfl (by kernel_rfl) (by kernel_rfl) (by kernel_rfl) (fun _ _ _ h => h) (by kernel_rfl) ?_ hS2 ?_
              rotate_left
              · (intro W hW; clear hW; go_simp; try with_reducible rfl)
              refine gTake 20 (v := ?_) rfl (by kernel_rfl) (by kernel_rfl) (by kernel_rfl) (fun _ _ _ h => h) (by kernel_rfl) ?_ hS2 ?_
              rotate_left
              · (intro W hW; clear hW; go_simp; try with_reducible rfl)
              refine gSkip 21 rfl (by kernel_rfl) (by kernel_rfl) (by kernel_rfl) (fun _ _ _ h => h) (by kernel_rfl) hS2 ?_
              refine gSkip 22 rfl (by kernel_rfl) (by kernel_rfl) (by kernel_rfl) (fun _ _ _ h => h) (by kernel_rfl) hS2 ?_
              refine gSkip 23 rfl (by kernel_rfl) (by kernel_rfl) (by kernel_rfl) (fun _ _ _ h => h) (by kernel_rfl) hS2 ?_
              refine gSkip 24 rfl (by kernel_rfl) (by kernel_rfl) (by kernel_rfl) (fun _ _ _ h => h) (by kernel_rfl) hS2 ?_
              refine gSkip 25 rfl (by kernel_rfl) (by kernel_rfl) (by kernel_rfl) (fun _ _ _ h => h) (by kernel_rfl) hS2 ?_
              refine gSkip 26 rfl (by kernel_rfl) (by kernel_rfl) (by kernel_rfl) (fun _ _ _ h => h) (by kernel_rfl) hS2 ?_
              refine gSkip 27 rfl (by kernel_rfl) (by kernel_rfl) (by kernel_rfl) (fun _ _ _ h => h) (by kernel_rfl) hS2 ?_
              refine gSkip 28 rfl (by kernel_rfl) (by kernel_rfl) (by kernel_rfl) (fun _ _ _ h => h) (by kernel_rfl) hS2 ?_
              refine gSkip 29 rfl (by kernel_rfl) (by kernel_rfl) (by kernel_rfl) (fun _ _ _ h => h) (by kernel_rfl) hS2 ?_
              refine gSkip 30 rfl (by kernel_rfl) (by kernel_rfl) (by kernel_rfl) (fun _ _ _ h => h) (by kernel_rfl) hS2 ?_
              refine gSkip 31 rfl (by kernel_rfl) (by kernel_rfl) (by kernel_rfl) (fun _ _ _ h => h) (by kernel_rfl) hS2 ?_
              refine gSkip 32 rfl (by kernel_rfl) (by kernel_rfl) (by kernel_rfl) (fun _ _ _ h => h) (by kernel_rfl) hS2 ?_
              refine gSkip 33 rfl (by kernel_rfl) (by kernel_rfl) (by kernel_rfl) (fun _ _ _ h => h) (by kernel_rfl) hS2 ?_
              refine gSkip 34 rfl (by kernel_rfl) (by kernel_rfl) (by kernel_rfl) (fun _ _ _ h => h) (by kernel_rfl) hS2 ?_
              refine gSkip 35 rfl (by kernel_rfl) (by kernel_rfl) (by kernel_rfl) (fun _ _ _ h => h) (by kernel_rfl) hS2 ?_
              refine gSkip 36 rfl (by kernel_rfl) (by kernel_rfl) (by kernel_rfl) (fun _ _ _ h => h) (by kernel_rfl) hS2 ?_
              refine gSkip 37 rfl (by kernel_rfl) (by kernel_rfl) (by kernel_rfl) (fun _ _ _ h => h) (by kernel_rfl) hS2 ?_
              refine gSkip 38 rfl (by kernel_rfl) (by kernel_rfl) (by kernel_rfl) (fun _ _ _ h => h) (by kernel_rfl) hS2 ?_
              refine gSkip 39 rfl (by kernel_rfl) (by kernel_rfl) (by kernel_rfl) (fun _ _ _ h => h) (by kernel_rfl) hS2 ?_
              refine gSkip 40 rfl (by kernel_rfl) (by kernel_rfl) (by kernel_rfl) (fun _ _ _ h => h) (by kernel_rfl) hS2 ?_
              refine gSkip 41 rfl (by kernel_rfl) (by kernel_rfl) (by kernel_rfl) (fun _ _ _ h => h) (by kernel_rfl) hS2 ?_
              refine gSkip 42 rfl (by kernel_rfl) (by kernel_rfl) (by kernel_rfl) (fun _ _ _ h => h) (by kernel_rfl) hS2 ?_
              refine gSkip 43 rfl (by kernel_rfl) (by kernel_rfl) (by kernel_rfl) (fun _ _ _ h => h) (by kernel_rfl) hS2 ?_
              refine gSkip 44 rfl (by kernel_rfl) (by kernel_rfl) (by kernel_rfl) (fun _ _ _ h => h) (by kernel_rfl) hS2 ?_
              refine gTake 45 (v := ?_) rfl (by kernel_rfl) (by kernel_rfl) (by kernel_rfl) (fun _ _ _ h => h) (by kernel_rfl) ?_ hS2 ?_
              rotate_left
              · (intro W hW; clear hW; go_simp; try with_reducible rfl)
              refine gTake 46 (v := ?_) rfl (by kernel_rfl) (by kernel_rfl) (by kernel_rfl) (fun _ _ _ h => h) (by kernel_rfl) ?_ hS2 ?_
              rotate_left
              · (intro W hW; clear hW; go_simp; try with_reducible rfl)
              refine wpAnyH_done (by kernel_rfl) ?_ _
              go_simp
              go_wp2
              go_roundw
              case rel => exact ⟨k + 1, by omega, by go_num, Lib.hid (fun j hj => by
                rcases Nat.lt_or_ge j k with q | q
                · exact HG.out j q
                · obtain rfl : j = k := by omega
                  exact HF.out), hbel.trans (hS2.2.2.mono hbel.size)⟩
              case measure => simp [intOf]; omega
            · have hj2 := (goodAt_iff.1 (HG.out (k - 1) (by omega))).1.1
              rw [show xs.getD (k - 1) [] = xs[k - 1]'(by omega) by simp [List.getD, show k - 1 < xs.length by omega]] at hj2
              obtain ⟨b2, off2, b3, off3, c3, e2, hd, hd0, hd1⟩ := (HR.out.below hbel).two (k := k - 1) (by omega) hj2
              injection e2 with e2
              injection e2 with e3 e4
              subst e3
              subst e4
              have HJ := Lib.hid (show goodAt xs k = (decide (cx xs (k - 1) < cx xs k) && decide (cy xs k ≤ cy xs (k - 1))) by unfold goodAt; rw [HRW.out, decide_eq_false k0]; simp)
              have hki : (0 < (k : Int)) := by omega
              have hkn : 0 < k := by omega
              clear hke h2 i0 i1 hj2 k0
              generalize cx xs k = x at *
              generalize cy xs k = y at *
              generalize cx xs (k - 1) = x' at *
              generalize cy xs (k - 1) = y' at *
              have hkj : (k : Int) - 1 = ((k - 1 : Nat) : Int) := by omega
              have hkl : k - 1 < xs.length := by omega
              generalize k - 1 = j at *
              have hkw : IntKind.i64.wrap ((k : Int) - 1) = (j : Int) := by rw [hkj]; exact IntWalk.i64_in _ (by omega)
              have HK := Lib.hid hkj
              clear hkj
              by_cases q0 : x ≤ x'
              · have g0 : ¬ (x' < x) := by omega
                have HF := Lib.hid (curveOk_bad hlt (show goodAt xs k = false by rw [HJ.out, decide_eq_false g0]; rfl))
                go_wp2_with fail
                refine wp_region_held (S := fun w' => w'.cell? ⟨b', off', none⟩ = some (.int .i64 x) ∧ w'.cell? ⟨b', off' + 1, none⟩ = some (.int .i64 y) ∧ w'.cell? ⟨b, off + j, none⟩ = some (.slice (some ⟨b3, off3, none⟩) 2 c3) ∧ w'.cell? ⟨b3, off3, none⟩ = some (.int .i64 x') ∧ w'.cell? ⟨b3, off3 + 1, none⟩ = some (.int .i64 y') ∧ Below wo.heap.size wo w') (by kernel_rfl) ?_
                try (change wpAnyH _ _ _ _ _ _ _ _ (World.drew _))
                have hS0 := (show wo.drew.cell? ⟨b', off', none⟩ = some (.int .i64 x) ∧ wo.drew.cell? ⟨b', off' + 1, none⟩ = some (.int .i64 y) ∧ wo.drew.cell? ⟨b, off + j, none⟩ = some (.slice (some ⟨b3, off3, none⟩) 2 c3) ∧ wo.drew.cell? ⟨b3, off3, none⟩ = some (.int .i64 x') ∧ wo.drew.cell? ⟨b3, off3 + 1, none⟩ = some (.int .i64 y') ∧ Below wo.heap.size wo wo.drew from ⟨hc0, hc1, hd, hd0, hd1, Below.drew (Below.refl _ _)⟩)
                refine gTake 0 (v := ?_) rfl (by kernel_rfl) (by kernel_rfl) (by kernel_rfl) (fun _ _ _ h => h) (by kernel_rfl) ?_ hS0 ?_
                rotate_left
                · (intro W hW; clear hW; go_simp; try with_reducible rfl)
                refine gTake 1 (v := ?_) rfl (by kernel_rfl) (by kernel_rfl) (by kernel_rfl) (fun _ _ _ h => h) (by kernel_rfl) ?_ hS0 ?_
                rotate_left
                · (intro W hW; clear hW; go_simp; try with_reducible rfl)
                refine gTake 2 (v := ?_) rfl (by kernel_rfl) (by kernel_rfl) (by kernel_rfl) (fun _ _ _ h => h) (by kernel_rfl) ?_ hS0 ?_
                rotate_left
                · (intro W hW; clear hW; go_simp; try with_reducible rfl)
                refine gTake 3 (v := ?_) rfl (by kernel_rfl) (by kernel_rfl) (by kernel_rfl) (fun _ _ _ h => h) (by kernel_rfl) ?_ hS0 ?_
                rotate_left
                · (intro W hW; clear hW; go_simp; try with_reducible rfl)
                refine gTake 4 (v := ?_) rfl (by kernel_rfl) (by kernel_rfl) (by kernel_rfl) (fun _ _ _ h => h) (by kernel_rfl) ?_ hS0 ?_
                rotate_left
                · (intro W hW; clear hW; go_simp; try with_reducible rfl)
                refine gTake 5 (v := ?_) rfl (by kernel_rfl) (by kernel_rfl) (by kernel_rfl) (fun _ _ _ h => h) (by kernel_rfl) ?_ hS0 ?_
                rotate_left
                · (intro W hW; clear hW; go_simp; try with_reducible rfl)
                refine gTake 6 (v := ?_) rfl (by kernel_rfl) (by kernel_rfl) (by kernel_rfl) (fun _ _ _ h => h) (by kernel_rfl) ?_ hS0 ?_
                rotate_left
                · (intro W hW; have q0 := hW.1; have q1 := hW.2.1; have q2 := hW.2.2.1; have q3 := hW.2.2.2.1; have q4 := hW.2.2.2.2.1; clear hW; go_simp; try with_reducible rfl)
                refine gOne 7 rfl (by kernel_rfl) (by kernel_rfl) (fun K hK => ?_)
                go_simp
                go_at_call 67
                (with_reducible refine (l00In_any _ _ _ _).mono ?_)
                rintro e w' ⟨rfl, rfl⟩
                try go_simp
                have hS1 := hS0
                refine hK _ _ hS1 ?_
                clear hK K
                refine gTake 8 (v := ?_) rfl (by kernel_rfl) (by kernel_rfl) (by kernel_rfl) (fun _ _ _ h => h) (by kernel_rfl) ?_ hS1 ?_
                rotate_left
                · (intro W hW; clear hW; go_simp; try with_reducible rfl)
                refine gTake 9 (v := ?_) rfl (by kernel_rfl) (by kernel_rfl) (by kernel_rfl) (fun _ _ _ h => h) (by kernel_rfl) ?_ hS1 ?_
                rotate_left
                · (intro W hW; clear hW; go_simp; try with_reducible rfl)
                refine gTake 10 (v := ?_) rfl (by kernel_rfl) (by kernel_rfl) (by kernel_rfl) (fun _ _ _ h => h) (by kernel_rfl) ?_ hS1 ?_
                rotate_left
                · (intro W hW; clear hW; go_simp; try with_reducible rfl)
                refine gTake 11 (v := ?_) rfl (by kernel_rfl) (by kernel_rfl) (by kernel_rfl) (fun _ _ _ h => h) (by kernel_rfl) ?_ hS1 ?_
                rotate_left
                · (intro W hW; clear hW; go_simp; try with_reducible rfl)
                refine gTake 12 (v := ?_) rfl (by kernel_rfl) (by kernel_rfl) (by kernel_rfl) (fun _ _ _ h => h) (by kernel_rfl) ?_ hS1 ?_
                rotate_left
                · (intro W hW; clear hW; go_simp; try with_reducible rfl)
                refine gTake 13 (v := ?_) rfl (by kernel_rfl) (by kernel_rfl) (by kernel_rfl) (fun _ _ _ h => h) (by kernel_rfl) ?_ hS1 ?_
                rotate_left
                · (intro W hW; have q0 := hW.1; have q1 := hW.2.1; have q2 := hW.2.2.1; have q3 := hW.2.2.2.1; have q4 := hW.2.2.2.2.1; clear hW; go_simp; try with_reducible rfl)
                refine gOne 14 rfl (by kernel_rfl) (by kernel_rfl) (fun K hK => ?_)
                go_simp
                go_at_call 67
                (with_reducible refine (l00In_any _ _ _ _).mono ?_)
                rintro e w' ⟨rfl, rfl⟩
                try go_simp
                have hS2 := hS1
                refine hK _ _ hS2 ?_
                clear hK K
                refine gTake 15 (v := ?_) rfl (by kernel_rfl) (by kernel_rfl) (by kernel_rfl) (fun _ _ _ h => h) (by kernel_rfl) ?_ hS2 ?_
                rotate_left
                · (intro W hW; clear hW; go_simp; try with_reducible rfl)
                refine gTake 16 (v := ?_) rfl (by kernel_rfl) (by kernel_rfl) (by kernel_rfl) (fun _ _ _ h => h) (by kernel_rfl) ?_ hS2 ?_
                rotate_left
                · (intro W hW; clear hW; go_simp; try with_reducible rfl)
                refine gTake 17 (v := ?_) rfl (by kernel_rfl) (by kernel_rfl) (by kernel_rfl) (fun _ _ _ h => h) (by kernel_rfl) ?_ hS2 ?_
                rotate_left
                · (intro W hW; clear hW; go_simp; try with_reducible rfl)
                refine gTake 18 (v := ?_) rfl (by kernel_rfl) (by kernel_rfl) (by kernel_rfl) (fun _ _ _ h => h) (by kernel_rfl) ?_ hS2 ?_
                rotate_left
                · (intro W hW; clear hW; go_simp; try with_reducible rfl)
                refine gTake 19 (v := ?_) rfl (by kernel_rfl) (by kernel_rfl) (by kernel_rfl) (fun _ _ _ h => h) (by kernel_rfl) ?_ hS2 ?_
                rotate_left
                · (intro W hW; clear hW; go_simp; try with_reducible rfl)
                refine gTake 20 (v := ?_) rfl (by kernel_rfl) (by kernel_rfl) (by kernel_rfl) (fun _ _ _ h => h) (by kernel_rfl) ?_ hS2 ?_
                rotate_left
                · (intro W hW; clear hW; go_simp; try with_reducible rfl)
                refine gTake 21 (v := ?_) rfl (by kernel_rfl) (by kernel_rfl) (by kernel_rfl) (fun _ _ _ h => h) (by kernel_rfl) ?_ hS2 ?_
                rotate_left
                · (intro W hW; clear hW; go_simp; try with_reducible rfl)
                refine gTake 22 (v := ?_) rfl (by kernel_rfl) (by kernel_rfl) (by kernel_rfl) (fun _ _ _ h => h) (by kernel_rfl) ?_ hS2 ?_
                rotate_left
                · (intro W hW; clear hW; go_simp; try with_reducible rfl)
                refine gTake 23 (v := ?_) rfl (by kernel_rfl) (by kernel_rfl) (by kernel_rfl) (fun _ _ _ h => h) (by kernel_rfl) ?_ hS2 ?_
                rotate_left
                · (intro W hW; clear hW; go_simp; try with_reducible rfl)
                refine gTake 24 (v := ?_) rfl (by kernel_rfl) (by kernel_rfl) (by kernel_rfl) (fun _ _ _ h => h) (by kernel_rfl) ?_ hS2 ?_
                rotate_left
                · (intro W hW; clear hW; go_simp; try with_reducible rfl)
                refine gTake 25 (v := ?_) rfl (by kernel_rfl) (by kernel_rfl) (by kernel_rfl) (fun _ _ _ h => h) (by kernel_rfl) ?_ hS2 ?_
                rotate_left
                · (intro W hW; have q0 := hW.1; have q1 := hW.2.1; have q2 := hW.2.2.1; have q3 := hW.2.2.2.1; have q4 := hW.2.2.2.2.1; clear hW; go_simp; try with_reducible rfl)
                refine gTake 26 (v := ?_) rfl (by kernel_rfl) (by kernel_rfl) (by kernel_rfl) (fun _ _ _ h => h) (by kernel_rfl) ?_ hS2 ?_
                rotate_left
                · (intro W hW; clear hW; go_simp; try with_reducible rfl)
                refine gTake 27 (v := ?_) rfl (by kernel_rfl) (by kernel_rfl) (by kernel_rfl) (fun _ _ _ h => h) (by kernel_rfl) ?_ hS2 ?_
                rotate_left
                · (intro W hW; have q0 := hW.1; have q1 := hW.2.1; have q2 := hW.2.2.1; have q3 := hW.2.2.2.1; have q4 := hW.2.2.2.2.1; clear hW; go_simp; try with_reducible rfl)
                refine gTake 28 (v := ?_) rfl (by kernel_rfl) (by kernel_rfl) (by kernel_rfl) (fun _ _ _ h => h) (by kernel_rfl) ?_ hS2 ?_
                rotate_left
                · (intro W hW; clear hW; go_simp; try with_reducible rfl)
                refine gTake 29 (v := ?_) rfl (by kernel_rfl) (by kernel_rfl) (by kernel_rfl) (fun _ _ _ h => h) (by kernel_rfl) ?_ hS2 ?_
                rotate_left
                · (intro W hW; clear hW; go_simp; try with_reducible rfl)
                refine gTake 30 (v := ?_) rfl (by kernel_rfl) (by kernel_rfl) (by kernel_rfl) (fun _ _ _ h => h) (by kernel_rfl) ?_ hS2 ?_
                rotate_left
                · (intro W hW; have q0 := hW.1; have q1 := hW.2.1; have q2 := hW.2.2.1; have q3 := hW.2.2.2.1; have q4 := hW.2.2.2.2.1; clear hW; go_simp; try with_reducible rfl)
                refine gTake 31 (v := ?_) rfl (by kernel_rfl) (by kernel_rfl) (by kernel_rfl) (fun _ _ _ h => h) (by kernel_rfl) ?_ hS2 ?_
                rotate_left
                · (intro W hW; clear hW; go_simp; try with_reducible rfl)
                refine gTake 32 (v := ?_) rfl (by kernel_rfl) (by kernel_rfl) (by kernel_rfl) (fun _ _ _ h => h) (by kernel_rfl) ?_ hS2 ?_
                rotate_left
                · (intro W hW; clear hW; go_simp; try with_reducible rfl)
                refine gSkip 33 rfl (by kernel_rfl) (by kernel_rfl) (by kernel_rfl) (fun _ _ _ h => h) (by kernel_rfl) hS2 ?_
                refine gSkip 34 rfl (by kernel_rfl) (by kernel_rfl) (by kernel_rfl) (fun _ _ _ h => h) (by kernel_rfl) hS2 ?_
                refine gSkip 35 rfl (by kernel_rfl) (by kernel_rfl) (by kernel_rfl) (fun _ _ _ h => h) (by kernel_rfl) hS2 ?_
                refine gSkip 36 rfl (by kernel_rfl) (by kernel_rfl) (by kernel_rfl) (fun _ _ _ h => h) (by kernel_rfl) hS2 ?_
                refine gSkip 37 rfl (by kernel_rfl) (by kernel_rfl) (by kernel_rfl) (fun _ _ _ h => h) (by kernel_rfl) hS2 ?_
                refine gSkip 38 rfl (by kernel_rfl) (by kernel_rfl) (by kernel_rfl) (fun _ _ _ h => h) (by kernel_rfl) hS2 ?_
                refine gSkip 39 rfl (by kernel_rfl) (by kernel_rfl) (by kernel_rfl) (fun _ _ _ h => h) (by kernel_rfl) hS2 ?_
                refine gSkip 40 rfl (by kernel_rfl) (by kernel_rfl) (by kernel_rfl) (fun _ _ _ h => h) (by kernel_rfl) hS2 ?_
                refine gSkip 41 rfl (by kernel_rfl) (by kernel_rfl) (by kernel_rfl) (fun _ _ _ h => h) (by kernel_rfl) hS2 ?_
                refine gSkip 42 rfl (by kernel_rfl) (by kernel_rfl) (by kernel_rfl) (fun _ _ _ h => h) (by kernel_rfl) hS2 ?_
                refine gSkip 43 rfl (by kernel_rfl) (by kernel_rfl) (by kernel_rfl) (fun _ _ _ h => h) (by kernel_rfl) hS2 ?_
                refine gTake 44 (v := ?_) rfl (by kernel_rfl) (by kernel_rfl) (by kernel_rfl) (fun _ _ _ h => h) (by kernel_rfl) ?_ hS2 ?_
                rotate_left
                · (intro W hW; clear hW; go_simp; try with_reducible rfl)
                refine gTake 45 (v := ?_) rfl (by kernel_rfl) (by kernel_rfl) (by kernel_rfl) (fun _ _ _ h => h) (by kernel_rfl) ?_ hS2 ?_
                rotate_left
                · (intro W hW; clear hW; go_simp; try with_reducible rfl)
                refine gTake 46 (v := ?_) rfl (by kernel_rfl) (by kernel_rfl) (by kernel_rfl) (fun _ _ _ h => h) (by kernel_rfl) ?_ hS2 ?_
                rotate_left
                · (intro W hW; clear hW; go_simp; try with_reducible rfl)
                refine wpAnyH_done (by kernel_rfl) ?_ _
                go_simp
                go_wp2
                go_ret
                exact ⟨ret_bool HF.out.symm, hbel.trans (hS2.2.2.2.2.2.mono hbel.size)⟩
              · have q0d : decide (x ≤ x') = false := decide_eq_false q0
                have q0e : x' < x := by omega
                by_cases q1 : y' < y
                · have g1 : ¬ (y ≤ y') := by omega
                  have HF := Lib.hid (curveOk_bad hlt (show goodAt xs k = false by rw [HJ.out, decide_eq_false g1, Bool.and_false]))
                  go_wp2_with fail
                  refine wp_region_held (S := fun w' => w'.cell? ⟨b', off', none⟩ = some (.int .i64 x) ∧ w'.cell? ⟨b', off' + 1, none⟩ = some (.int .i64 y) ∧ w'.cell? ⟨b, off + j, none⟩ = some (.slice (some ⟨b3, off3, none⟩) 2 c3) ∧ w'.cell? ⟨b3, off3, none⟩ = some (.int .i64 x') ∧ w'.cell? ⟨b3, off3 + 1, none⟩ = some (.int .i64 y') ∧ Below wo.heap.size wo w') (by kernel_rfl) ?_
                  try (change wpAnyH _ _ _ _ _ _ _ _ (World.drew _))
                  have hS0 := (show wo.drew.cell? ⟨b', off', none⟩ = some (.int .i64 x) ∧ wo.drew.cell? ⟨b', off' + 1, none⟩ = some (.int .i64 y) ∧ wo.drew.cell? ⟨b, off + j, none⟩ = some (.slice (some ⟨b3, off3, none⟩) 2 c3) ∧ wo.drew.cell? ⟨b3, off3, none⟩ = some (.int .i64 x') ∧ wo.drew.cell? ⟨b3, off3 + 1, none⟩ = some (.int .i64 y') ∧ Below wo.heap.size wo wo.drew from ⟨hc0, hc1, hd, hd0, hd1, Below.drew (Below.refl _ _)⟩)
                  refine gTake 0 (v := ?_) rfl (by kernel_rfl) (by kernel_rfl) (by kernel_rfl) (fun _ _ _ h => h) (by kernel_rfl) ?_ hS0 ?_
                  rotate_left
                  · (intro W hW; clear hW; go_simp; try with_reducible rfl)
                  refine gTake 1 (v := ?_) rfl (by kernel_rfl) (by kernel_rfl) (by kernel_rfl) (fun _ _ _ h => h) (by kernel_rfl) ?_ hS0 ?_
                  rotate_left
                  · (intro W hW; clear hW; go_simp; try with_reducible rfl)
                  refine gTake 2 (v := ?_) rfl (by kernel_rfl) (by kernel_rfl) (by kernel_rfl) (fun _ _ _ h => h) (by kernel_rfl) ?_ hS0 ?_
                  rotate_left
                  · (intro W hW; clear hW; go_simp; try with_reducible rfl)
                  refine gTake 3 (v := ?_) rfl (by kernel_rfl) (by kernel_rfl) (by kernel_rfl) (fun _ _ _ h => h) (by kernel_rfl) ?_ hS0 ?_
                  rotate_left
                  · (intro W hW; clear hW; go_simp; try with_reducible rfl)
                  refine gTake 4 (v := ?_) rfl (by kernel_rfl) (by kernel_rfl) (by kernel_rfl) (fun _ _ _ h => h) (by kernel_rfl) ?_ hS0 ?_
                  rotate_left
                  · (intro W hW; clear hW; go_simp; try with_reducible rfl)
                  refine gTake 5 (v := ?_) rfl (by kernel_rfl) (by kernel_rfl) (by kernel_rfl) (fun _ _ _ h => h) (by kernel_rfl) ?_ hS0 ?_
                  rotate_left
                  · (intro W hW; clear hW; go_simp; try with_reducible rfl)
                  refine gTake 6 (v := ?_) rfl (by kernel_rfl) (by kernel_rfl) (by kernel_rfl) (fun _ _ _ h => h) (by kernel_rfl) ?_ hS0 ?_
                  rotate_left
                  · (intro W hW; have q0 := hW.1; have q1 := hW.2.1; have q2 := hW.2.2.1; have q3 := hW.2.2.2.1; have q4 := hW.2.2.2.2.1; clear hW; go_simp; try with_reducible rfl)
                  refine gOne 7 rfl (by kernel_rfl) (by kernel_rfl) (fun K hK => ?_)
                  go_simp
                  go_at_call 67
                  (with_reducible refine (l00In_any _ _ _ _).mono ?_)
                  rintro e w' ⟨rfl, rfl⟩
                  try go_simp
                  have hS1 := hS0
                  refine hK _ _ hS1 ?_
                  clear hK K
                  refine gTake 8 (v := ?_) rfl (by kernel_rfl) (by kernel_rfl) (by kernel_rfl) (fun _ _ _ h => h) (by kernel_rfl) ?_ hS1 ?_
                  rotate_left
                  · (intro W hW; clear hW; go_simp; try with_reducible rfl)
                  refine gTake 9 (v := ?_) rfl (by kernel_rfl) (by kernel_rfl) (by kernel_rfl) (fun _ _ _ h => h) (by kernel_rfl) ?_ hS1 ?_
                  rotate_left
                  · (intro W hW; clear hW; go_simp; try with_reducible rfl)
                  refine gTake 10 (v := ?_) rfl (by kernel_rfl) (by kernel_rfl) (by kernel_rfl) (fun _ _ _ h => h) (by kernel_rfl) ?_ hS1 ?_
                  rotate_left
                  · (intro W hW; clear hW; go_simp; try with_reducible rfl)
                  refine gTake 11 (v := ?_) rfl (by kernel_rfl) (by kernel_rfl) (by kernel_rfl) (fun _ _ _ h => h) (by kernel_rfl) ?_ hS1 ?_
                  rotate_left
                  · (intro W hW; clear hW; go_simp; try with_reducible rfl)
                  refine gTake 12 (v := ?_) rfl (by kernel_rfl) (by kernel_rfl) (by kernel_rfl) (fun _ _ _ h => h) (by kernel_rfl) ?_ hS1 ?_
                  rotate_left
                  · (intro W hW; clear hW; go_simp; try with_reducible rfl)
                  refine gTake 13 (v := ?_) rfl (by kernel_rfl) (by kernel_rfl) (by kernel_rfl) (fun _ _ _ h => h) (by kernel_rfl) ?_ hS1 ?_
                  rotate_left
                  · (intro W hW; have q0 := hW.1; have q1 := hW.2.1; have q2 := hW.2.2.1; have q3 := hW.2.2.2.1; have q4 := hW.2.2.2.2.1; clear hW; go_simp; try with_reducible rfl)
                  refine gOne 14 rfl (by kernel_rfl) (by kernel_rfl) (fun K hK => ?_)
                  go_simp
                  go_at_call 67
                  (with_reducible refine (l00In_any _ _ _ _).mono ?_)
                  rintro e w' ⟨rfl, rfl⟩
                  try go_simp
                  have hS2 := hS1
                  refine hK _ _ hS2 ?_
                  clear hK K
                  refine gTake 15 (v := ?_) rfl (by kernel_rfl) (by kernel_rfl) (by kernel_rfl) (fun _ _ _ h => h) (by kernel_rfl) ?_ hS2 ?_
                  rotate_left
                  · (intro W hW; clear hW; go_simp; try with_reducible rfl)
                  refine gTake 16 (v := ?_) rfl (by kernel_rfl) (by kernel_rfl) (by kernel_rfl) (fun _ _ _ h => h) (by kernel_rfl) ?_ hS2 ?_
                  rotate_left
                  · (intro W hW; clear hW; go_simp; try with_reducible rfl)
                  refine gTake 17 (v := ?_) rfl (by kernel_rfl) (by kernel_rfl) (by kernel_rfl) (fun _ _ _ h => h) (by kernel_rfl) ?_ hS2 ?_
                  rotate_left
                  · (intro W hW; clear hW; go_simp; try with_reducible rfl)
                  refine gTake 18 (v := ?_) rfl (by kernel_rfl) (by kernel_rfl) (by kernel_rfl) (fun _ _ _ h => h) (by kernel_rfl) ?_ hS2 ?_
                  rotate_left
                  · (intro W hW; clear hW; go_simp; try with_reducible rfl)
                  refine gTake 19 (v := ?_) rfl (by kernel_rfl) (by kernel_rfl) (by kernel_rfl) (fun _ _ _ h => h) (by kernel_rfl) ?_ hS2 ?_
                  rotate_left
                  · (intro W hW; clear hW; go_simp; try with_reducible rfl)
                  refine gTake 20 (v := ?_) rfl (by kernel_rfl) (by kernel_rfl) (by kernel_rfl) (fun _ _ _ h => h) (by kernel_rfl) ?_ hS2 ?_
                  rotate_left
                  · (intro W hW; clear hW; go_simp; try with_reducible rfl)
                  refine gTake 21 (v := ?_) rfl (by kernel_rfl) (by kernel_rfl) (by kernel_rfl) (fun _ _ _ h => h) (by kernel_rfl) ?_ hS2 ?_
                  rotate_left
                  · (intro W hW; clear hW; go_simp; try with_reducible rfl)
                  refine gTake 22 (v := ?_) rfl (by kernel_rfl) (by kernel_rfl) (by kernel_rfl) (fun _ _ _ h => h) (by kernel_rfl) ?_ hS2 ?_
                  rotate_left
                  · (intro W hW; clear hW; go_simp; try with_reducible rfl)
                  refine gTake 23 (v := ?_) rfl (by kernel_rfl) (by kernel_rfl) (by kernel_rfl) (fun _ _ _ h => h) (by kernel_rfl) ?_ hS2 ?_
                  rotate_left
                  · (intro W hW; clear hW; go_simp; try with_reducible rfl)
                  refine gTake 24 (v := ?_) rfl (by kernel_rfl) (by kernel_rfl) (by kernel_rfl) (fun _ _ _ h => h) (by kernel_rfl) ?_ hS2 ?_
                  rotate_left
                  · (intro W hW; clear hW; go_simp; try with_reducible rfl)
                  refine gTake 25 (v := ?_) rfl (by kernel_rfl) (by kernel_rfl) (by kernel_rfl) (fun _ _ _ h => h) (by kernel_rfl) ?_ hS2 ?_
                  rotate_left
                  · (intro W hW; have q0 := hW.1; have q1 := hW.2.1; have q2 := hW.2.2.1; have q3 := hW.2.2.2.1; have q4 := hW.2.2.2.2.1; clear hW; go_simp; try with_reducible rfl)
                  refine gTake 26 (v := ?_) rfl (by kernel_rfl) (by kernel_rfl) (by kernel_rfl) (fun _ _ _ h => h) (by kernel_rfl) ?_ hS2 ?_
                  rotate_left
                  · (intro W hW; clear hW; go_simp; try with_reducible rfl)
                  refine gTake 27 (v := ?_) rfl (by kernel_rfl) (by kernel_rfl) (by kernel_rfl) (fun _ _ _ h => h) (by kernel_rfl) ?_ hS2 ?_
                  rotate_left
                  · (intro W hW; have q0 := hW.1; have q1 := hW.2.1; have q2 := hW.2.2.1; have q3 := hW.2.2.2.1; have q4 := hW.2.2.2.2.1; clear hW; go_simp; try with_reducible rfl)
                  refine gTake 28 (v := ?_) rfl (by kernel_rfl) (by kernel_rfl) (by kernel_rfl) (fun _ _ _ h => h) (by kernel_rfl) ?_ hS2 ?_
                  rotate_left
                  · (intro W hW; clear hW; go_simp; try with_reducible rfl)
                  refine gTake 29 (v := ?_) rfl (by kernel_rfl) (by kernel_rfl) (by kernel_rfl) (fun _ _ _ h => h) (by kernel_rfl) ?_ hS2 ?_
                  rotate_left
                  · (intro W hW; clear hW; go_simp; try with_reducible rfl)
                  refine gTake 30 (v := ?_) rfl (by kernel_rfl) (by kernel_rfl) (by kernel_rfl) (fun _ _ _ h => h) (by kernel_rfl) ?_ hS2 ?_
                  rotate_left
                  · (intro W hW; have q0 := hW.1; have q1 := hW.2.1; have q2 := hW.2.2.1; have q3 := hW.2.2.2.1; have q4 := hW.2.2.2.2.1; clear hW; go_simp; try with_reducible rfl)
                  refine gTake 31 (v := ?_) rfl (by kernel_rfl) (by kernel_rfl) (by kernel_rfl) (fun _ _ _ h => h) (by kernel_rfl) ?_ hS2 ?_
                  rotate_left
                  · (intro W hW; clear hW; go_simp; try with_reducible rfl)
                  refine gTake 32 (v := ?_) rfl (by kernel_rfl) (by kernel_rfl) (by kernel_rfl) (fun _ _ _ h => h) (by kernel_rfl) ?_ hS2 ?_
                  rotate_left
                  · (intro W hW; clear hW; go_simp; try with_reducible rfl)
                  refine gTake 33 (v := ?_) rfl (by kernel_rfl) (by kernel_rfl) (by kernel_rfl) (fun _ _ _ h => h) (by kernel_rfl) ?_ hS2 ?_
                  rotate_left
                  · (intro W hW; clear hW; go_simp; try with_reducible rfl)
                  refine gTake 34 (v := ?_) rfl (by kernel_rfl) (by kernel_rfl) (by kernel_rfl) (fun _ _ _ h => h) (by kernel_rfl) ?_ hS2 ?_
                  rotate_left
                  · (intro W hW; clear hW; go_simp; try with_reducible rfl)
                  refine gTake 35 (v := ?_) rfl (by kernel_rfl) (by kernel_rfl) (by kernel_rfl) (fun _ _ _ h => h) (by kernel_rfl) ?_ hS2 ?_
                  rotate_left
                  · (intro W hW; clear hW; go_simp; try with_reducible rfl)
                  refine gTake 36 (v := ?_) rfl (by kernel_rfl) (by kernel_rfl) (by kernel_rfl) (fun _ _ _ h => h) (by kernel_rfl) ?_ hS2 ?_
                  rotate_left
                  · (intro W hW; clear hW; go_simp; try with_reducible rfl)
                  refine gTake 37 (v := ?_) rfl (by kernel_rfl) (by kernel_rfl) (by kernel_rfl) (fun _ _ _ h => h) (by kernel_rfl) ?_ hS2 ?_
                  rotate_left
                  · (intro W hW; have q0 := hW.1; have q1 := hW.2.1; have q2 := hW.2.2.1; have q3 := hW.2.2.2.1; have q4 := hW.2.2.2.2.1; clear hW; go_simp; try with_reducible rfl)
                  refine gTake 38 (v := ?_) rfl (by kernel_rfl) (by kernel_rfl) (by kernel_rfl) (fun _ _ _ h => h) (by kernel_rfl) ?_ hS2 ?_
                  rotate_left
                  · (intro W hW; clear hW; go_simp; try with_reducible rfl)
                  refine gTake 39 (v := ?_) rfl (by kernel_rfl) (by kernel_rfl) (by kernel_rfl) (fun _ _ _ h => h) (by kernel_rfl) ?_ hS2 ?_
                  rotate_left
                  · (intro W hW; have q0 := hW.1; have q1 := hW.2.1; have q2 := hW.2.2.1; have q3 := hW.2.2.2.1; have q4 := hW.2.2.2.2.1; clear hW; go_simp; try with_reducible rfl)
                  refine gTake 40 (v := ?_) rfl (by kernel_rfl) (by kernel_rfl) (by kernel_rfl) (fun _ _ _ h => h) (by kernel_rfl) ?_ hS2 ?_
                  rotate_left
                  · (intro W hW; clear hW; go_simp; try with_reducible rfl)
                  refine gTake 41 (v := ?_) rfl (by kernel_rfl) (by kernel_rfl) (by kernel_rfl) (fun _ _ _ h => h) (by kernel_rfl) ?_ hS2 ?_
                  rotate_left
                  · (intro W hW; clear hW; go_simp; try with_reducible rfl)
                  refine gTake 42 (v := ?_) rfl (by kernel_rfl) (by kernel_rfl) (by kernel_rfl) (fun _ _ _ h => h) (by kernel_rfl) ?_ hS2 ?_
                  rotate_left
                  · (intro W hW; have q0 := hW.1; have q1 := hW.2.1; have q2 := hW.2.2.1; have q3 := hW.2.2.2.1; have q4 := hW.2.2.2.2.1; clear hW; go_simp; try with_reducible rfl)
                  refine gTake 43 (v := ?_) rfl (by kernel_rfl) (by kernel_rfl) (by kernel_rfl) (fun _ _ _ h => h) (by kernel_rfl) ?_ hS2 ?_
                  rotate_left
                  · (intro W hW; clear hW; go_simp; try with_reducible rfl)
                  refine gTake 44 (v := ?_) rfl (by kernel_rfl) (by kernel_rfl) (by kernel_rfl) (fun _ _ _ h => h) (by kernel_rfl) ?_ hS2 ?_
                  rotate_left
                  · (intro W hW; clear hW; go_simp; try with_reducible rfl)
                  refine gTake 45 (v := ?_) rfl (by kernel_rfl) (by kernel_rfl) (by kernel_rfl) (fun _ _ _ h => h) (by kernel_rfl) ?_ hS2 ?_
                  rotate_left
                  · (intro W hW; clear hW; go_simp; try with_reducible rfl)
                  refine gTake 46 (v := ?_) rfl (by kernel_rfl) (by kernel_rfl) (by kernel_rfl) (fun _ _ _ h => h) (by kernel_rfl) ?_ hS2 ?_
                  rotate_left
                  · (intro W hW; clear hW; go_simp; try with_reducible rfl)
                  refine wpAnyH_done (by kernel_rfl) ?_ _
                  go_simp
                  go_wp2
                  go_ret
                  exact ⟨ret_bool HF.out.symm, hbel.trans (hS2.2.2.2.2.2.mono hbel.size)⟩
                · have q1d : decide (y' < y) = false := decide_eq_false q1
                  have HF := Lib.hid (show goodAt xs k = true by rw [HJ.out, decide_eq_true (by omega), decide_eq_true (by omega)]; rfl)
                  go_wp2_with fail
                  refine wp_region_held (S := fun w' => w'.cell? ⟨b', off', none⟩ = some (.int .i64 x) ∧ w'.cell? ⟨b', off' + 1, none⟩ = some (.int .i64 y) ∧ w'.cell? ⟨b, off + j, none⟩ = some (.slice (some ⟨b3, off3, none⟩) 2 c3) ∧ w'.cell? ⟨b3, off3, none⟩ = some (.int .i64 x') ∧ w'.cell? ⟨b3, off3 + 1, none⟩ = some (.int .i64 y') ∧ Below wo.heap.size wo w') (by kernel_rfl) ?_
                  try (change wpAnyH _ _ _ _ _ _ _ _ (World.drew _))
                  have hS0 := (show wo.drew.cell? ⟨b', off', none⟩ = some (.int .i64 x) ∧ wo.drew.cell? ⟨b', off' + 1, none⟩ = some (.int .i64 y) ∧ wo.drew.cell? ⟨b, off + j, none⟩ = some (.slice (some ⟨b3, off3, none⟩) 2 c3) ∧ wo.drew.cell? ⟨b3, off3, none⟩ = some (.int .i64 x') ∧ wo.drew.cell? ⟨b3, off3 + 1, none⟩ = some (.int .i64 y') ∧ Below wo.heap.size wo wo.drew from ⟨hc0, hc1, hd, hd0, hd1, Below.drew (Below.refl _ _)⟩)
                  refine gTake 0 (v := ?_) rfl (by kernel_rfl) (by kernel_rfl) (by kernel_rfl) (fun _ _ _ h => h) (by kernel_rfl) ?_ hS0 ?_
                  rotate_left
                  · (intro W hW; clear hW; go_simp; try with_reducible rfl)
                  refine gTake 1 (v := ?_) rfl (by kernel_rfl) (by kernel_rfl) (by kernel_rfl) (fun _ _ _ h => h) (by kernel_rfl) ?_ hS0 ?_
                  rotate_left
                  · (intro W hW; clear hW; go_simp; try with_reducible rfl)
                  refine gTake 2 (v := ?_) rfl (by kernel_rfl) (by kernel_rfl) (by kernel_rfl) (fun _ _ _ h => h) (by kernel_rfl) ?_ hS0 ?_
                  rotate_left
                  · (intro W hW; clear hW; go_simp; try with_reducible rfl)
                  refine gTake 3 (v := ?_) rfl (by kernel_rfl) (by kernel_rfl) (by kernel_rfl) (fun _ _ _ h => h) (by kernel_rfl) ?_ hS0 ?_
                  rotate_left
                  · (intro W hW; clear hW; go_simp; try with_reducible rfl)
                  refine gTake 4 (v := ?_) rfl (by kernel_rfl) (by kernel_rfl) (by kernel_rfl) (fun _ _ _ h => h) (by kernel_rfl) ?_ hS0 ?_
                  rotate_left
                  · (intro W hW; clear hW; go_simp; try with_reducible rfl)
                  refine gTake 5 (v := ?_) rfl (by kernel_rfl) (by kernel_rfl) (by kernel_rfl) (fun _ _ _ h => h) (by kernel_rfl) ?_ hS0 ?_
                  rotate_left
                  · (intro W hW; clear hW; go_simp; try with_reducible rfl)
                  refine gTake 6 (v := ?_) rfl (by kernel_rfl) (by kernel_rfl) (by kernel_rfl) (fun _ _ _ h => h) (by kernel_rfl) ?_ hS0 ?_
                  rotate_left
                  · (intro W hW; have q0 := hW.1; have q1 := hW.2.1; have q2 := hW.2.2.1; have q3 := hW.2.2.2.1; have q4 := hW.2.2.2.2.1; clear hW; go_simp; try with_reducible rfl)
                  refine gOne 7 rfl (by kernel_rfl) (by kernel_rfl) (fun K hK => ?_)
                  go_simp
                  go_at_call 67
                  (with_reducible refine (l00In_any _ _ _ _).mono ?_)
                  rintro e w' ⟨rfl, rfl⟩
                  try go_simp
                  have hS1 := hS0
                  refine hK _ _ hS1 ?_
                  clear hK K
                  refine gTake 8 (v := ?_) rfl (by kernel_rfl) (by kernel_rfl) (by kernel_rfl) (fun _ _ _ h => h) (by kernel_rfl) ?_ hS1 ?_
                  rotate_left
                  · (intro W hW; clear hW; go_simp; try with_reducible rfl)
                  refine gTake 9 (v := ?_) rfl (by kernel_rfl) (by kernel_rfl) (by kernel_rfl) (fun _ _ _ h => h) (by kernel_rfl) ?_ hS1 ?_
                  rotate_left
                  · (intro W hW; clear hW; go_simp; try with_reducible rfl)
                  refine gTake 10 (v := ?_) rfl (by kernel_rfl) (by kernel_rfl) (by kernel_rfl) (fun _ _ _ h => h) (by kernel_rfl) ?_ hS1 ?_
                  rotate_left
                  · (intro W hW; clear hW; go_simp; try with_reducible rfl)
                  refine gTake 11 (v := ?_) rfl (by kernel_rfl) (by kernel_rfl) (by kernel_rfl) (fun _ _ _ h => h) (by kernel_rfl) ?_ hS1 ?_
                  rotate_left
                  · (intro W hW; clear hW; go_simp; try with_reducible rfl)
                  refine gTake 12 (v := ?_) rfl (by kernel_rfl) (by kernel_rfl) (by kernel_rfl) (fun _ _ _ h => h) (by kernel_rfl) ?_ hS1 ?_
                  rotate_left
                  · (intro W hW; clear hW; go_simp; try with_reducible rfl)
                  refine gTake 13 (v := ?_) rfl (by kernel_rfl) (by kernel_rfl) (by kernel_rfl) (fun _ _ _ h => h) (by kernel_rfl) ?_ hS1 ?_
                  rotate_left
                  · (intro W hW; have q0 := hW.1; have q1 := hW.2.1; have q2 := hW.2.2.1; have q3 := hW.2.2.2.1; have q4 := hW.2.2.2.2.1; clear hW; go_simp; try with_reducible rfl)
                  refine gOne 14 rfl (by kernel_rfl) (by kernel_rfl) (fun K hK => ?_)
                  go_simp
                  go_at_call 67
                  (with_reducible refine (l00In_any _ _ _ _).mono ?_)
                  rintro e w' ⟨rfl, rfl⟩
                  try go_simp
                  have hS2 := hS1
                  refine hK _ _ hS2 ?_
                  clear hK K
                  refine gTake 15 (v := ?_) rfl (by kernel_rfl) (by kernel_rfl) (by kernel_rfl) (fun _ _ _ h => h) (by kernel_rfl) ?_ hS2 ?_
                  rotate_left
                  · (intro W hW; clear hW; go_simp; try with_reducible rfl)
                  refine gTake 16 (v := ?_) rfl (by kernel_rfl) (by kernel_rfl) (by kernel_rfl) (fun _ _ _ h => h) (by kernel_rfl) ?_ hS2 ?_
                  rotate_left
                  · (intro W hW; clear hW; go_simp; try with_reducible rfl)
                  refine gTake 17 (v := ?_) rfl (by kernel_rfl) (by kernel_rfl) (by kernel_rfl) (fun _ _ _ h => h) (by kernel_rfl) ?_ hS2 ?_
                  rotate_left
                  · (intro W hW; clear hW; go_simp; try with_reducible rfl)
                  refine gTake 18 (v := ?_) rfl (by kernel_rfl) (by kernel_rfl) (by kernel_rfl) (fun _ _ _ h => h) (by kernel_rfl) ?_ hS2 ?_
                  rotate_left
                  · (intro W hW; clear hW; go_simp; try with_reducible rfl)
                  refine gTake 19 (v := ?_) rfl (by kernel_rfl) (by kernel_rfl) (by kernel_rfl) (fun _ _ _ h => h) (by kernel_rfl) ?_ hS2 ?_
                  rotate_left
                  · (intro W hW; clear hW; go_simp; try with_reducible rfl)
                  refine gTake 20 (v := ?_) rfl (by kernel_rfl) (by kernel_rfl) (by kernel_rfl) (fun _ _ _ h => h) (by kernel_rfl) ?_ hS2 ?_
                  rotate_left
                  · (intro W hW; clear hW; go_simp; try with_reducible rfl)
                  refine gTake 21 (v := ?_) rfl (by kernel_rfl) (by kernel_rfl) (by kernel_rfl) (fun _ _ _ h => h) (by kernel_rfl) ?_ hS2 ?_
                  rotate_left
                  · (intro W hW; clear hW; go_simp; try with_reducible rfl)
                  refine gTake 22 (v := ?_) rfl (by kernel_rfl) (by kernel_rfl) (by kernel_rfl) (fun _ _ _ h => h) (by kernel_rfl) ?_ hS2 ?_
                  rotate_left
                  · (intro W hW; clear hW; go_simp; try with_reducible rfl)
                  refine gTake 23 (v := ?_) rfl (by kernel_rfl) (by kernel_rfl) (by kernel_rfl) (fun _ _ _ h => h) (by kernel_rfl) ?_ hS2 ?_
                  rotate_left
                  · (intro W hW; clear hW; go_simp; try with_reducible rfl)
                  refine gTake 24 (v := ?_) rfl (by kernel_rfl) (by kernel_rfl) (by kernel_rfl) (fun _ _ _ h => h) (by kernel_rfl) ?_ hS2 ?_
                  rotate_left
                  · (intro W hW; clear hW; go_simp; try with_reducible rfl)
                  refine gTake 25 (v := ?_) rfl (by kernel_rfl) (by kernel_rfl) (by kernel_rfl) (fun _ _ _ h => h) (by kernel_rfl) ?_ hS2 ?_
                  rotate_left
                  · (intro W hW; have q0 := hW.1; have q1 := hW.2.1; have q2 := hW.2.2.1; have q3 := hW.2.2.2.1; have q4 := hW.2.2.2.2.1; clear hW; go_simp; try with_reducible rfl)
                  refine gTake 26 (v := ?_) rfl (by kernel_rfl) (by kernel_rfl) (by kernel_rfl) (fun _ _ _ h => h) (by kernel_rfl) ?_ hS2 ?_
                  rotate_left
                  · (intro W hW; clear hW; go_simp; try with_reducible rfl)
                  refine gTake 27 (v := ?_) rfl (by kernel_rfl) (by kernel_rfl) (by kernel_rfl) (fun _ _ _ h => h) (by kernel_rfl) ?_ hS2 ?_
                  rotate_left
                  · (intro W hW; have q0 := hW.1; have q1 := hW.2.1; have q2 := hW.2.2.1; have q3 := hW.2.2.2.1; have q4 := hW.2.2.2.2.1; clear hW; go_simp; try with_reducible rfl)
                  refine gTake 28 (v := ?_) rfl (by kernel_rfl) (by kernel_rfl) (by kernel_rfl) (fun _ _ _ h => h) (by kernel_rfl) ?_ hS2 ?_
                  rotate_left
                  · (intro W hW; clear hW; go_simp; try with_reducible rfl)
                  refine gTake 29 (v := ?_) rfl (by kernel_rfl) (by kernel_rfl) (by kernel_rfl) (fun _ _ _ h => h) (by kernel_rfl) ?_ hS2 ?_
                  rotate_left
                  · (intro W hW; clear hW; go_simp; try with_reducible rfl)
                  refine gTake 30 (v := ?_) rfl (by kernel_rfl) (by kernel_rfl) (by kernel_rfl) (fun _ _ _ h => h) (by kernel_rfl) ?_ hS2 ?_
                  rotate_left
                  · (intro W hW; have q0 := hW.1; have q1 := hW.2.1; have q2 := hW.2.2.1; have q3 := hW.2.2.2.1; have q4 := hW.2.2.2.2.1; clear hW; go_simp; try with_reducible rfl)
                  refine gTake 31 (v := ?_) rfl (by kernel_rfl) (by kernel_rfl) (by kernel_rfl) (fun _ _ _ h => h) (by kernel_rfl) ?_ hS2 ?_
                  rotate_left
                  · (intro W hW; clear hW; go_simp; try with_reducible rfl)
                  refine gTake 32 (v := ?_) rfl (by kernel_rfl) (by kernel_rfl) (by kernel_rfl) (fun _ _ _ h => h) (by kernel_rfl) ?_ hS2 ?_
                  rotate_left
                  · (intro W hW; clear hW; go_simp; try with_reducible rfl)
                  refine gTake 33 (v := ?_) rfl (by kernel_rfl) (by kernel_rfl) (by kernel_rfl) (fun _ _ _ h => h) (by kernel_rfl) ?_ hS2 ?_
                  rotate_left
                  · (intro W hW; clear hW; go_simp; try with_reducible rfl)
                  refine gTake 34 (v := ?_) rfl (by kernel_rfl) (by kernel_rfl) (by kernel_rfl) (fun _ _ _ h => h) (by kernel_rfl) ?_ hS2 ?_
                  rotate_left
                  · (intro W hW; clear hW; go_simp; try with_reducible rfl)
                  refine gTake 35 (v := ?_) rfl (by kernel_rfl) (by kernel_rfl) (by kernel_rfl) (fun _ _ _ h => h) (by kernel_rfl) ?_ hS2 ?_
                  rotate_left
                  · (intro W hW; clear hW; go_simp; try with_reducible rfl)
                  refine gTake 36 (v := ?_) rfl (by kernel_rfl) (by kernel_rfl) (by kernel_rfl) (fun _ _ _ h => h) (by kernel_rfl) ?_ hS2 ?_
                  rotate_left
                  · (intro W hW; clear hW; go_simp; try with_reducible rfl)
                  refine gTake 37 (v := ?_) rfl (by kernel_rfl) (by kernel_rfl) (by kernel_rfl) (fun _ _ _ h => h) (by kernel_rfl) ?_ hS2 ?_
                  rotate_left
                  · (intro W hW; have q0 := hW.1; have q1 := hW.2.1; have q2 := hW.2.2.1; have q3 := hW.2.2.2.1; have q4 := hW.2.2.2.2.1; clear hW; go_simp; try with_reducible rfl)
                  refine gTake 38 (v := ?_) rfl (by kernel_rfl) (by kernel_rfl) (by kernel_rfl) (fun _ _ _ h => h) (by kernel_rfl) ?_ hS2 ?_
                  rotate_left
                  · (intro W hW; clear hW; go_simp; try with_reducible rfl)
                  refine gTake 39 (v := ?_) rfl (by kernel_rfl) (by kernel_rfl) (by kernel_rfl) (fun _ _ _ h => h) (by kernel_rfl) ?_ hS2 ?_
                  rotate_left
                  · (intro W hW; have q0 := hW.1; have q1 := hW.2.1; have q2 := hW.2.2.1; have q3 := hW.2.2.2.1; have q4 := hW.2.2.2.2.1; clear hW; go_simp; try with_reducible rfl)
                  refine gTake 40 (v := ?_) rfl (by kernel_rfl) (by kernel_rfl) (by kernel_rfl) (fun _ _ _ h => h) (by kernel_rfl) ?_ hS2 ?_
                  rotate_left
                  · (intro W hW; clear hW; go_simp; try with_reducible rfl)
                  refine gTake 41 (v := ?_) rfl (by kernel_rfl) (by kernel_rfl) (by kernel_rfl) (fun _ _ _ h => h) (by kernel_rfl) ?_ hS2 ?_
                  rotate_left
                  · (intro W hW; clear hW; go_simp; try with_reducible rfl)
                  refine gTake 42 (v := ?_) rfl (by kernel_rfl) (by kernel_rfl) (by kernel_rfl) (fun _ _ _ h => h) (by kernel_rfl) ?_ hS2 ?_
                  rotate_left
                  · (intro W hW; have q0 := hW.1; have q1 := hW.2.1; have q2 := hW.2.2.1; have q3 := hW.2.2.2.1; have q4 := hW.2.2.2.2.1; clear hW; go_simp; try with_reducible rfl)
                  refine gTake 43 (v := ?_) rfl (by kernel_rfl) (by kernel_rfl) (by kernel_rfl) (fun _ _ _ h => h) (by kernel_rfl) ?_ hS2 ?_
                  rotate_left
                  · (intro W hW; clear hW; go_simp; try with_reducible rfl)
                  refine gTake 44 (v := ?_) rfl (by kernel_rfl) (by kernel_rfl) (by kernel_rfl) (fun _ _ _ h => h) (by kernel_rfl) ?_ hS2 ?_
                  rotate_left
                  · (intro W hW; clear hW; go_simp; try with_reducible rfl)
                  refine gTake 45 (v := ?_) rfl (by kernel_rfl) (by kernel_rfl) (by kernel_rfl) (fun _ _ _ h => h) (by kernel_rfl) ?_ hS2 ?_
                  rotate_left
                  · (intro W hW; clear hW; go_simp; try with_reducible rfl)
                  refine gTake 46 (v := ?_) rfl (by kernel_rfl) (by kernel_rfl) (by kernel_rfl) (fun _ _ _ h => h) (by kernel_rfl) ?_ hS2 ?_
                  rotate_left
                  · (intro W hW; clear hW; go_simp; try with_reducible rfl)
                  refine wpAnyH_done (by kernel_rfl) ?_ _
                  go_simp
                  go_wp2
                  go_roundw
                  case rel => exact ⟨k + 1, by omega, by go_num, Lib.hid (fun j hj => by
                    rcases Nat.lt_or_ge j k with q | q
                    · exact HG.out j q
                    · obtain rfl : j = k := by omega
                      exact HF.out), hbel.trans (hS2.2.2.2.2.2.mono hbel.size)⟩
                  case measure => simp [intOf]; omega
          · have j1 := inB_false i1
            have HF := Lib.hid (curveOk_bad hlt (show goodAt xs k = false by rw [← Bool.not_eq_true, goodAt_iff]; exact fun hg => i1 hg.1.2.2))
            clear hke h2 i0 i1
            generalize cx xs k = x at *
            generalize cy xs k = y at *
            go_wp2_with fail
            refine wp_region_held (S := fun w' => w'.cell? ⟨b', off', none⟩ = some (.int .i64 x) ∧ w'.cell? ⟨b', off' + 1, none⟩ = some (.int .i64 y) ∧ Below wo.heap.size wo w') (by kernel_rfl) ?_
            try (change wpAnyH _ _ _ _ _ _ _ _ (World.drew _))
            have hS0 := (show wo.drew.cell? ⟨b', off', none⟩ = some (.int .i64 x) ∧ wo.drew.cell? ⟨b', off' + 1, none⟩ = some (.int .i64 y) ∧ Below wo.heap.size wo wo.drew from ⟨hc0, hc1, Below.drew (Below.refl _ _)⟩)
            refine gTake 0 (v := ?_) rfl (by kernel_rfl) (by kernel_rfl) (by kernel_rfl) (fun _ _ _ h => h) (by kernel_rfl) ?_ hS0 ?_
            rotate_left
            · (intro W hW; clear hW; go_simp; try with_reducible rfl)
            refine gTake 1 (v := ?_) rfl (by kernel_rfl) (by kernel_rfl) (by kernel_rfl) (fun _ _ _ h => h) (by kernel_rfl) ?_ hS0 ?_
            rotate_left
            · (intro W hW; clear hW; go_simp; try with_reducible rfl)
            refine gTake 2 (v := ?_) rfl (by kernel_rfl) (by kernel_rfl) (by kernel_rfl) (fun _ _ _ h => h) (by kernel_rfl) ?_ hS0 ?_
            rotate_left
            · (intro W hW; clear hW; go_simp; try with_reducible rfl)
            refine gTake 3 (v := ?_) rfl (by kernel_rfl) (by kernel_rfl) (by kernel_rfl) (fun _ _ _ h => h) (by kernel_rfl) ?_ hS0 ?_
            rotate_left
            · (intro W hW; clear hW; go_simp; try with_reducible rfl)
            refine gTake 4 (v := ?_) rfl (by kernel_rfl) (by kernel_rfl) (by kernel_rfl) (fun _ _ _ h => h) (by kernel_rfl) ?_ hS0 ?_
            rotate_left
            · (intro W hW; clear hW; go_simp; try with_reducible rfl)
            refine gTake 5 (v := ?_) rfl (by kernel_rfl) (by kernel_rfl) (by kernel_rfl) (fun _ _ _ h => h) (by kernel_rfl) ?_ hS0 ?_
            rotate_left
            · (intro W hW; clear hW; go_simp; try with_reducible rfl)
            refine gTake 6 (v := ?_) rfl (by kernel_rfl) (by kernel_rfl) (by kernel_rfl) (fun _ _ _ h => h) (by kernel_rfl) ?_ hS0 ?_
            rotate_left
            · (intro W hW; have q0 := hW.1; have q1 := hW.2.1; clear hW; go_simp; try with_reducible rfl)
            refine gOne 7 rfl (by kernel_rfl) (by kernel_rfl) (fun K hK => ?_)
            go_simp
            go_at_call 67
            (with_reducible refine (l00In_any _ _ _ _).mono ?_)
            rintro e w' ⟨rfl, rfl⟩
            try go_simp
            have hS1 := hS0
            refine hK _ _ hS1 ?_
            clear hK K
            refine gTake 8 (v := ?_) rfl (by kernel_rfl) (by kernel_rfl) (by kernel_rfl) (fun _ _ _ h => h) (by kernel_rfl) ?_ hS1 ?_
            rotate_left
            · (intro W hW; clear hW; go_simp; try with_reducible rfl)
            refine gTake 9 (v := ?_) rfl (by kernel_rfl) (by kernel_rfl) (by kernel_rfl) (fun _ _ _ h => h) (by kernel_rfl) ?_ hS1 ?_
            rotate_left
            · (intro W hW; clear hW; go_simp; try with_reducible rfl)
            refine gTake 10 (v := ?_) rfl (by kernel_rfl) (by kernel_rfl) (by kernel_rfl) (fun _ _ _ h => h) (by kernel_rfl) ?_ hS1 ?_
            rotate_left
            · (intro W hW; clear hW; go_simp; try with_reducible rfl)
            refine gTake 11 (v := ?_) rfl (by kernel_rfl) (by kernel_rfl) (by kernel_rfl) (fun _ _ _ h => h) (by kernel_rfl) ?_ hS1 ?_
            rotate_left
            · (intro W hW; clear hW; go_simp; try with_reducible rfl)
            refine gTake 12 (v := ?_) rfl (by kernel_rfl) (by kernel_rfl) (by kernel_rfl) (fun _ _ _ h => h) (by kernel_rfl) ?_ hS1 ?_
            rotate_left
            · (intro W hW; clear hW; go_simp; try with_reducible rfl)
            refine gTake 13 (v := ?_) rfl (by kernel_rfl) (by kernel_rfl) (by kernel_rfl) (fun _ _ _ h => h) (by kernel_rfl) ?_ hS1 ?_
            rotate_left
            · (intro W hW; have q0 := hW.1; have q1 := hW.2.1; clear hW; go_simp; try with_reducible rfl)
            refine gOne 14 rfl (by kernel_rfl) (by kernel_rfl) (fun K hK => ?_)
            go_simp
            go_at_call 67
            (with_reducible refine (l00In_any _ _ _ _).mono ?_)
            rintro e w' ⟨rfl, rfl⟩
            try go_simp
            have hS2 := hS1
            refine hK _ _ hS2 ?_
            clear hK K
            refine gTake 15 (v := ?_) rfl (by kernel_rfl) (by kernel_rfl) (by kernel_rfl) (fun _ _ _ h => h) (by kernel_rfl) ?_ hS2 ?_
            rotate_left
            · (intro W hW; clear hW; go_simp; try with_reducible rfl)
            refine gTake 16 (v := ?_) rfl (by kernel_rfl) (by kernel_rfl) (by kernel_rfl) (fun _ _ _ h => h) (by kernel_rfl) ?_ hS2 ?_
            rotate_left
            · (intro W hW; clear hW; go_simp; try with_reducible rfl)
            refine gTake 17 (v := ?_) rfl (by kernel_rfl) (by kernel_rfl) (by kernel_rfl) (fun _ _ _ h => h) (by kernel_rfl) ?_ hS2 ?_
            rotate_left
            · (intro W hW; clear hW; go_simp; try with_reducible rfl)
            refine gSkip 18 rfl (by kernel_rfl) (by kernel_rfl) (by kernel_rfl) (fun _ _ _ h => h) (by kernel_rfl) hS2 ?_
            refine gSkip 19 rfl (by kernel_rfl) (by kernel_rfl) (by kernel_rfl) (fun _ _ _ h => h) (by kernel_rfl) hS2 ?_
            refine gSkip 20 rfl (by kernel_rfl) (by kernel_rfl) (by kernel_rfl) (fun _ _ _ h => h) (by kernel_rfl) hS2 ?_
            refine gSkip 21 rfl (by kernel_rfl) (by kernel_rfl) (by kernel_rfl) (fun _ _ _ h => h) (by kernel_rfl) hS2 ?_
            refine gSkip 22 rfl (by kernel_rfl) (by kernel_rfl) (by kernel_rfl) (fun _ _ _ h => h) (by kernel_rfl) hS2 ?_
            refine gSkip 23 rfl (by kernel_rfl) (by kernel_rfl) (by kernel_rfl) (fun _ _ _ h => h) (by kernel_rfl) hS2 ?_
            refine gSkip 24 rfl (by kernel_rfl) (by kernel_rfl) (by kernel_rfl) (fun _ _ _ h => h) (by kernel_rfl) hS2 ?_
            refine gSkip 25 rfl (by kernel_rfl) (by kernel_rfl) (by kernel_rfl) (fun _ _ _ h => h) (by kernel_rfl) hS2 ?_
            refine gSkip 26 rfl (by kernel_rfl) (by kernel_rfl) (by kernel_rfl) (fun _ _ _ h => h) (by kernel_rfl) hS2 ?_
            refine gSkip 27 rfl (by kernel_rfl) (by kernel_rfl) (by kernel_rfl) (fun _ _ _ h => h) (by kernel_rfl) hS2 ?_
            refine gSkip 28 rfl (by kernel_rfl) (by kernel_rfl) (by kernel_rfl) (fun _ _ _ h => h) (by kernel_rfl) hS2 ?_
            refine gSkip 29 rfl (by kernel_rfl) (by kernel_rfl) (by kernel_rfl) (fun _ _ _ h => h) (by kernel_rfl) hS2 ?_
            refine gSkip 30 rfl (by kernel_rfl) (by kernel_rfl) (by kernel_rfl) (fun _ _ _ h => h) (by kernel_rfl) hS2 ?_
            refine gSkip 31 rfl (by kernel_rfl) (by kernel_rfl) (by kernel_rfl) (fun _ _ _ h => h) (by kernel_rfl) hS2 ?_
            refine gSkip 32 rfl (by kernel_rfl) (by kernel_rfl) (by kernel_rfl) (fun _ _ _ h => h) (by kernel_rfl) hS2 ?_
            refine gSkip 33 rfl (by kernel_rfl) (by kernel_rfl) (by kernel_rfl) (fun _ _ _ h => h) (by kernel_rfl) hS2 ?_
            refine gSkip 34 rfl (by kernel_rfl) (by kernel_rfl) (by kernel_rfl) (fun _ _ _ h => h) (by kernel_rfl) hS2 ?_
            refine gSkip 35 rfl (by kernel_rfl) (by kernel_rfl) (by kernel_rfl) (fun _ _ _ h => h) (by kernel_rfl) hS2 ?_
            refine gSkip 36 rfl (by kernel_rfl) (by kernel_rfl) (by kernel_rfl) (fun _ _ _ h => h) (by kernel_rfl) hS2 ?_
            refine gSkip 37 rfl (by kernel_rfl) (by kernel_rfl) (by kernel_rfl) (fun _ _ _ h => h) (by kernel_rfl) hS2 ?_
            refine gSkip 38 rfl (by kernel_rfl) (by kernel_rfl) (by kernel_rfl) (fun _ _ _ h => h) (by kernel_rfl) hS2 ?_
            refine gSkip 39 rfl (by kernel_rfl) (by kernel_rfl) (by kernel_rfl) (fun _ _ _ h => h) (by kernel_rfl) hS2 ?_
            refine gSkip 40 rfl (by kernel_rfl) (by kernel_rfl) (by kernel_rfl) (fun _ _ _ h => h) (by kernel_rfl) hS2 ?_
            refine gSkip 41 rfl (by kernel_rfl) (by kernel_rfl) (by kernel_rfl) (fun _ _ _ h => h) (by kernel_rfl) hS2 ?_
            refine gSkip 42 rfl (by kernel_rfl) (by kernel_rfl) (by kernel_rfl) (fun _ _ _ h => h) (by kernel_rfl) hS2 ?_
            refine gSkip 43 rfl (by kernel_rfl) (by kernel_rfl) (by kernel_rfl) (fun _ _ _ h => h) (by kernel_rfl) hS2 ?_
            refine gSkip 44 rfl (by kernel_rfl) (by kernel_rfl) (by kernel_rfl) (fun _ _ _ h => h) (by kernel_rfl) hS2 ?_
            refine gSkip 45 rfl (by kernel_rfl) (by kernel_rfl) (by kernel_rfl) (fun _ _ _ h => h) (by kernel_rfl) hS2 ?_
            refine gTake 46 (v := ?_) rfl (by kernel_rfl) (by kernel_rfl) (by kernel_rfl) (fun _ _ _ h => h) (by kernel_rfl) ?_ hS2 ?_
            rotate_left
            · (intro W hW; clear hW; go_simp; try with_reducible rfl)
            refine wpAnyH_done (by kernel_rfl) ?_ _
            go_simp
            go_wp2
            go_ret
            exact ⟨ret_bool HF.out.symm, hbel.trans (hS2.2.2.mono hbel.size)⟩
        · have j0 := inB_false i0
          have HF := Lib.hid (curveOk_bad hlt (show goodAt xs k = false by rw [← Bool.not_eq_true, goodAt_iff]; exact fun hg => i0 hg.1.2.1))
          clear hke h2 i0
          generalize cx xs k = x at *
          generalize cy xs k = y at *
          go_wp2_with fail
          refine wp_region_held (S := fun w' => w'.cell? ⟨b', off', none⟩ = some (.int .i64 x) ∧ w'.cell? ⟨b', off' + 1, none⟩ = some (.int .i64 y) ∧ Below wo.heap.size wo w') (by kernel_rfl) ?_
          try (change wpAnyH _ _ _ _ _ _ _ _ (World.drew _))
          have hS0 := (show wo.drew.cell? ⟨b', off', none⟩ = some (.int .i64 x) ∧ wo.drew.cell? ⟨b', off' + 1, none⟩ = some (.int .i64 y) ∧ Below wo.heap.size wo wo.drew from ⟨hc0, hc1, Below.drew (Below.refl _ _)⟩)
          refine gTake 0 (v := ?_) rfl (by kernel_rfl) (by kernel_rfl) (by kernel_rfl) (fun _ _ _ h => h) (by kernel_rfl) ?_ hS0 ?_
          rotate_left
          · (intro W hW; clear hW; go_simp; try with_reducible rfl)
          refine gTake 1 (v := ?_) rfl (by kernel_rfl) (by kernel_rfl) (by kernel_rfl) (fun _ _ _ h => h) (by kernel_rfl) ?_ hS0 ?_
          rotate_left
          · (intro W hW; clear hW; go_simp; try with_reducible rfl)
          refine gTake 2 (v := ?_) rfl (by kernel_rfl) (by kernel_rfl) (by kernel_rfl) (fun _ _ _ h => h) (by kernel_rfl) ?_ hS0 ?_
          rotate_left
          · (intro W hW; clear hW; go_simp; try with_reducible rfl)
          refine gTake 3 (v := ?_) rfl (by kernel_rfl) (by kernel_rfl) (by kernel_rfl) (fun _ _ _ h => h) (by kernel_rfl) ?_ hS0 ?_
          rotate_left
          · (intro W hW; clear hW; go_simp; try with_reducible rfl)
          refine gTake 4 (v := ?_) rfl (by kernel_rfl) (by kernel_rfl) (by kernel_rfl) (fun _ _ _ h => h) (by kernel_rfl) ?_ hS0 ?_
          rotate_left
          · (intro W hW; clear hW; go_simp; try with_reducible rfl)
          refine gTake 5 (v := ?_) rfl (by kernel_rfl) (by kernel_rfl) (by kernel_rfl) (fun _ _ _ h => h) (by kernel_rfl) ?_ hS0 ?_
          rotate_left
          · (intro W hW; clear hW; go_simp; try with_reducible rfl)
          refine gTake 6 (v := ?_) rfl (by kernel_rfl) (by kernel_rfl) (by kernel_rfl) (fun _ _ _ h => h) (by kernel_rfl) ?_ hS0 ?_
          rotate_left
          · (intro W hW; have q0 := hW.1; have q1 := hW.2.1; clear hW; go_simp; try with_reducible rfl)
          refine gOne 7 rfl (by kernel_rfl) (by kernel_rfl) (fun K hK => ?_)
          go_simp
          go_at_call 67
          (with_reducible refine (l00In_any _ _ _ _).mono ?_)
          rintro e w' ⟨rfl, rfl⟩
          try go_simp
          have hS1 := hS0
          refine hK _ _ hS1 ?_
          clear hK K
          refine gTake 8 (v := ?_) rfl (by kernel_rfl) (by kernel_rfl) (by kernel_rfl) (fun _ _ _ h => h) (by kernel_rfl) ?_ hS1 ?_
          rotate_left
          · (intro W hW; clear hW; go_simp; try with_reducible rfl)
          refine gTake 9 (v := ?_) rfl (by kernel_rfl) (by kernel_rfl) (by kernel_rfl) (fun _ _ _ h => h) (by kernel_rfl) ?_ hS1 ?_
          rotate_left
          · (intro W hW; clear hW; go_simp; try with_reducible rfl)
          refine gTake 10 (v := ?_) rfl (by kernel_rfl) (by kernel_rfl) (by kernel_rfl) (fun _ _ _ h => h) (by kernel_rfl) ?_ hS1 ?_
          rotate_left
          · (intro W hW; clear hW; go_simp; try with_reducible rfl)
          refine gSkip 11 rfl (by kernel_rfl) (by kernel_rfl) (by kernel_rfl) (fun _ _ _ h => h) (by kernel_rfl) hS1 ?_
          refine gSkip 12 rfl (by kernel_rfl) (by kernel_rfl) (by kernel_rfl) (fun _ _ _ h => h) (by kernel_rfl) hS1 ?_
          refine gSkip 13 rfl (by kernel_rfl) (by kernel_rfl) (by kernel_rfl) (fun _ _ _ h => h) (by kernel_rfl) hS1 ?_
          refine gSkip 14 rfl (by kernel_rfl) (by kernel_rfl) (by kernel_rfl) (fun _ _ _ h => h) (by kernel_rfl) hS1 ?_
          refine gSkip 15 rfl (by kernel_rfl) (by kernel_rfl) (by kernel_rfl) (fun _ _ _ h => h) (by kernel_rfl) hS1 ?_
          refine gTake 16 (v := ?_) rfl (by kernel_rfl) (by kernel_rfl) (by kernel_rfl) (fun _ _ _ h => h) (by kernel_rfl) ?_ hS1 ?_
          rotate_left
          · (intro W hW; clear hW; go_simp; try with_reducible rfl)
          refine gTake 17 (v := ?_) rfl (by kernel_rfl) (by kernel_rfl) (by kernel_rfl) (fun _ _ _ h => h) (by kernel_rfl) ?_ hS1 ?_
          rotate_left
          · (intro W hW; clear hW; go_simp; try with_reducible rfl)
          refine gSkip 18 rfl (by kernel_rfl) (by kernel_rfl) (by kernel_rfl) (fun _ _ _ h => h) (by kernel_rfl) hS1 ?_
          refine gSkip 19 rfl (by kernel_rfl) (by kernel_rfl) (by kernel_rfl) (fun _ _ _ h => h) (by kernel_rfl) hS1 ?_
          refine gSkip 20 rfl (by kernel_rfl) (by kernel_rfl) (by kernel_rfl) (fun _ _ _ h => h) (by kernel_rfl) hS1 ?_
          refine gSkip 21 rfl (by kernel_rfl) (by kernel_rfl) (by kernel_rfl) (fun _ _ _ h => h) (by kernel_rfl) hS1 ?_
          refine gSkip 22 rfl (by kernel_rfl) (by kernel_rfl) (by kernel_rfl) (fun _ _ _ h => h) (by kernel_rfl) hS1 ?_
          refine gSkip 23 rfl (by kernel_rfl) (by kernel_rfl) (by kernel_rfl) (fun _ _ _ h => h) (by kernel_rfl) hS1 ?_
          refine gSkip 24 rfl (by kernel_rfl) (by kernel_rfl) (by kernel_rfl) (fun _ _ _ h => h) (by kernel_rfl) hS1 ?_
          refine gSkip 25 rfl (by kernel_rfl) (by kernel_rfl) (by kernel_rfl) (fun _ _ _ h => h) (by kernel_rfl) hS1 ?_
          refine gSkip 26 rfl (by kernel_rfl) (by kernel_rfl) (by kernel_rfl) (fun _ _ _ h => h) (by kernel_rfl) hS1 ?_
          refine gSkip 27 rfl (by kernel_rfl) (by kernel_rfl) (by kernel_rfl) (fun _ _ _ h => h) (by kernel_rfl) hS1 ?_
          refine gSkip 28 rfl (by kernel_rfl) (by kernel_rfl) (by kernel_rfl) (fun _ _ _ h => h) (by kernel_rfl) hS1 ?_
          refine gSkip 29 rfl (by kernel_rfl) (by kernel_rfl) (by kernel_rfl) (fun _ _ _ h => h) (by kernel_rfl) hS1 ?_
          refine gSkip 30 rfl (by kernel_rfl) (by kernel_rfl) (by kernel_rfl) (fun _ _ _ h => h) (by kernel_rfl) hS1 ?_
          refine gSkip 31 rfl (by kernel_rfl) (by kernel_rfl) (by kernel_rfl) (fun _ _ _ h => h) (by kernel_rfl) hS1 ?_
          refine gSkip 32 rfl (by kernel_rfl) (by kernel_rfl) (by kernel_rfl) (fun _ _ _ h => h) (by kernel_rfl) hS1 ?_
          refine gSkip 33 rfl (by kernel_rfl) (by kernel_rfl) (by kernel_rfl) (fun _ _ _ h => h) (by kernel_rfl) hS1 ?_
          refine gSkip 34 rfl (by kernel_rfl) (by kernel_rfl) (by kernel_rfl) (fun _ _ _ h => h) (by kernel_rfl) hS1 ?_
          refine gSkip 35 rfl (by kernel_rfl) (by kernel_rfl) (by kernel_rfl) (fun _ _ _ h => h) (by kernel_rfl) hS1 ?_
          refine gSkip 36 rfl (by kernel_rfl) (by kernel_rfl) (by kernel_rfl) (fun _ _ _ h => h) (by kernel_rfl) hS1 ?_
          refine gSkip 37 rfl (by kernel_rfl) (by kernel_rfl) (by kernel_rfl) (fun _ _ _ h => h) (by kernel_rfl) hS1 ?_
          refine gSkip 38 rfl (by kernel_rfl) (by kernel_rfl) (by kernel_rfl) (fun _ _ _ h => h) (by kernel_rfl) hS1 ?_
          refine gSkip 39 rfl (by kernel_rfl) (by kernel_rfl) (by kernel_rfl) (fun _ _ _ h => h) (by kernel_rfl) hS1 ?_
          refine gSkip 40 rfl (by kernel_rfl) (by kernel_rfl) (by kernel_rfl) (fun _ _ _ h => h) (by kernel_rfl) hS1 ?_
          refine gSkip 41 rfl (by kernel_rfl) (by kernel_rfl) (by kernel_rfl) (fun _ _ _ h => h) (by kernel_rfl) hS1 ?_
          refine gSkip 42 rfl (by kernel_rfl) (by kernel_rfl) (by kernel_rfl) (fun _ _ _ h => h) (by kernel_rfl) hS1 ?_
          refine gSkip 43 rfl (by kernel_rfl) (by kernel_rfl) (by kernel_rfl) (fun _ _ _ h => h) (by kernel_rfl) hS1 ?_
          refine gSkip 44 rfl (by kernel_rfl) (by kernel_rfl) (by kernel_rfl) (fun _ _ _ h => h) (by kernel_rfl) hS1 ?_
          refine gSkip 45 rfl (by kernel_rfl) (by kernel_rfl) (by kernel_rfl) (fun _ _ _ h => h) (by kernel_rfl) hS1 ?_
          refine gTake 46 (v := ?_) rfl (by kernel_rfl) (by kernel_rfl) (by kernel_rfl) (fun _ _ _ h => h) (by kernel_rfl) ?_ hS1 ?_
          rotate_left
          · (intro W hW; clear hW; go_simp; try with_reducible rfl)
          refine wpAnyH_done (by kernel_rfl) ?_ _
          go_simp
          go_wp2
          go_ret
          exact ⟨ret_bool HF.out.symm, hbel.trans (hS1.2.2.mono hbel.size)⟩
      · obtain ⟨b, off, A', c1, rfl, hc, -⟩ := (HR.out.below hbel).row hlt
        have hL := HX.out xs[k] (List.getElem_mem hlt)
        have HF := Lib.hid (curveOk_bad hlt (show goodAt xs k = false by rw [← Bool.not_eq_true, goodAt_iff]; exact fun hg => h2 (hke ▸ hg.1.1)))
        have h3 : ¬ ((xs[k].length : Int) = 2) := by omega
        have h3d : ((xs[k].length : Int) != 2) = true := bne_iff_ne.2 h3
        clear hke
        generalize xs[k].length = L at *
        go_wp2_with fail
        refine wp_region_held (S := fun w' => Below wo.heap.size wo w') (by kernel_rfl) ?_
        try (change wpAnyH _ _ _ _ _ _ _ _ (World.drew _))
        have hS0 := (show Below wo.heap.size wo wo.drew from Below.drew (Below.refl _ _))
        refine gTake 0 (v := ?_) rfl (by kernel_rfl) (by kernel_rfl) (by kernel_rfl) (fun _ _ _ h => h) (by kernel_rfl) ?_ hS0 ?_
        rotate_left
        · (intro W hW; clear hW; go_simp; try with_reducible rfl)
        refine gTake 1 (v := ?_) rfl (by kernel_rfl) (by kernel_rfl) (by kernel_rfl) (fun _ _ _ h => h) (by kernel_rfl) ?_ hS0 ?_
        rotate_left
        · (intro W hW; clear hW; go_simp; try with_reducible rfl)
        refine gTake 2 (v := ?_) rfl (by kernel_rfl) (by kernel_rfl) (by kernel_rfl) (fun _ _ _ h => h) (by kernel_rfl) ?_ hS0 ?_
        rotate_left
        · (intro W hW; clear hW; go_simp; try with_reducible rfl)
        refine gTake 3 (v := ?_) rfl (by kernel_rfl) (by kernel_rfl) (by kernel_rfl) (fun _ _ _ h => h) (by kernel_rfl) ?_ hS0 ?_
        rotate_left
        · (intro W hW; clear hW; go_simp; try with_reducible rfl)
        refine gSkip 4 rfl (by kernel_rfl) (by kernel_rfl) (by kernel_rfl) (fun _ _ _ h => h) (by kernel_rfl) hS0 ?_
        refine gSkip 5 rfl (by kernel_rfl) (by kernel_rfl) (by kernel_rfl) (fun _ _ _ h => h) (by kernel_rfl) hS0 ?_
        refine gSkip 6 rfl (by kernel_rfl) (by kernel_rfl) (by kernel_rfl) (fun _ _ _ h => h) (by kernel_rfl) hS0 ?_
        refine gSkip 7 rfl (by kernel_rfl) (by kernel_rfl) (by kernel_rfl) (fun _ _ _ h => h) (by kernel_rfl) hS0 ?_
        refine gSkip 8 rfl (by kernel_rfl) (by kernel_rfl) (by kernel_rfl) (fun _ _ _ h => h) (by kernel_rfl) hS0 ?_
        refine gTake 9 (v := ?_) rfl (by kernel_rfl) (by kernel_rfl) (by kernel_rfl) (fun _ _ _ h => h) (by kernel_rfl) ?_ hS0 ?_
        rotate_left
        · (intro W hW; clear hW; go_simp; try with_reducible rfl)
        refine gTake 10 (v := ?_) rfl (by kernel_rfl) (by kernel_rfl) (by kernel_rfl) (fun _ _ _ h => h) (by kernel_rfl) ?_ hS0 ?_
        rotate_left
        · (intro W hW; clear hW; go_simp; try with_reducible rfl)
        refine gSkip 11 rfl (by kernel_rfl) (by kernel_rfl) (by kernel_rfl) (fun _ _ _ h => h) (by kernel_rfl) hS0 ?_
        refine gSkip 12 rfl (by kernel_rfl) (by kernel_rfl) (by kernel_rfl) (fun _ _ _ h => h) (by kernel_rfl) hS0 ?_
        refine gSkip 13 rfl (by kernel_rfl) (by kernel_rfl) (by kernel_rfl) (fun _ _ _ h => h) (by kernel_rfl) hS0 ?_
        refine gSkip 14 rfl (by kernel_rfl) (by kernel_rfl) (by kernel_rfl) (fun _ _ _ h => h) (by kernel_rfl) hS0 ?_
        refine gSkip 15 rfl (by kernel_rfl) (by kernel_rfl) (by kernel_rfl) (fun _ _ _ h => h) (by kernel_rfl) hS0 ?_
        refine gTake 16 (v := ?_) rfl (by kernel_rfl) (by kernel_rfl) (by kernel_rfl) (fun _ _ _ h => h) (by kernel_rfl) ?_ hS0 ?_
        rotate_left
        · (intro W hW; clear hW; go_simp; try with_reducible rfl)
        refine gTake 17 (v := ?_) rfl (by kernel_rfl) (by kernel_rfl) (by kernel_rfl) (fun _ _ _ h => h) (by kernel_rfl) ?_ hS0 ?_
        rotate_left
        · (intro W hW; clear hW; go_simp; try with_reducible rfl)
        refine gSkip 18 rfl (by kernel_rfl) (by kernel_rfl) (by kernel_rfl) (fun _ _ _ h => h) (by kernel_rfl) hS0 ?_
        refine gSkip 19 rfl (by kernel_rfl) (by kernel_rfl) (by kernel_rfl) (fun _ _ _ h => h) (by kernel_rfl) hS0 ?_
        refine gSkip 20 rfl (by kernel_rfl) (by kernel_rfl) (by kernel_rfl) (fun _ _ _ h => h) (by kernel_rfl) hS0 ?_
        refine gSkip 21 rfl (by kernel_rfl) (by kernel_rfl) (by kernel_rfl) (fun _ _ _ h => h) (by kernel_rfl) hS0 ?_
        refine gSkip 22 rfl (by kernel_rfl) (by kernel_rfl) (by kernel_rfl) (fun _ _ _ h => h) (by kernel_rfl) hS0 ?_
        refine gSkip 23 rfl (by kernel_rfl) (by kernel_rfl) (by kernel_rfl) (fun _ _ _ h => h) (by kernel_rfl) hS0 ?_
        refine gSkip 24 rfl (by kernel_rfl) (by kernel_rfl) (by kernel_rfl) (fun _ _ _ h => h) (by kernel_rfl) hS0 ?_
        refine gSkip 25 rfl (by kernel_rfl) (by kernel_rfl) (by kernel_rfl) (fun _ _ _ h => h) (by kernel_rfl) hS0 ?_
        refine gSkip 26 rfl (by kernel_rfl) (by kernel_rfl) (by kernel_rfl) (fun _ _ _ h => h) (by kernel_rfl) hS0 ?_
        refine gSkip 27 rfl (by kernel_rfl) (by kernel_rfl) (by kernel_rfl) (fun _ _ _ h => h) (by kernel_rfl) hS0 ?_
        refine gSkip 28 rfl (by kernel_rfl) (by kernel_rfl) (by kernel_rfl) (fun _ _ _ h => h) (by kernel_rfl) hS0 ?_
        refine gSkip 29 rfl (by kernel_rfl) (by kernel_rfl) (by kernel_rfl) (fun _ _ _ h => h) (by kernel_rfl) hS0 ?_
        refine gSkip 30 rfl (by kernel_rfl) (by kernel_rfl) (by kernel_rfl) (fun _ _ _ h => h) (by kernel_rfl) hS0 ?_
        refine gSkip 31 rfl (by kernel_rfl) (by kernel_rfl) (by kernel_rfl) (fun _ _ _ h => h) (by kernel_rfl) hS0 ?_
        refine gSkip 32 rfl (by kernel_rfl) (by kernel_rfl) (by kernel_rfl) (fun _ _ _ h => h) (by kernel_rfl) hS0 ?_
        refine gSkip 33 rfl (by kernel_rfl) (by kernel_rfl) (by kernel_rfl) (fun _ _ _ h => h) (by kernel_rfl) hS0 ?_
        refine gSkip 34 rfl (by kernel_rfl) (by kernel_rfl) (by kernel_rfl) (fun _ _ _ h => h) (by kernel_rfl) hS0 ?_
        refine gSkip 35 rfl (by kernel_rfl) (by kernel_rfl) (by kernel_rfl) (fun _ _ _ h => h) (by kernel_rfl) hS0 ?_
        refine gSkip 36 rfl (by kernel_rfl) (by kernel_rfl) (by kernel_rfl) (fun _ _ _ h => h) (by kernel_rfl) hS0 ?_
        refine gSkip 37 rfl (by kernel_rfl) (by kernel_rfl) (by kernel_rfl) (fun _ _ _ h => h) (by kernel_rfl) hS0 ?_
        refine gSkip 38 rfl (by kernel_rfl) (by kernel_rfl) (by kernel_rfl) (fun _ _ _ h => h) (by kernel_rfl) hS0 ?_
        refine gSkip 39 rfl (by kernel_rfl) (by kernel_rfl) (by kernel_rfl) (fun _ _ _ h => h) (by kernel_rfl) hS0 ?_
        refine gSkip 40 rfl (by kernel_rfl) (by kernel_rfl) (by kernel_rfl) (fun _ _ _ h => h) (by kernel_rfl) hS0 ?_
        refine gSkip 41 rfl (by kernel_rfl) (by kernel_rfl) (by kernel_rfl) (fun _ _ _ h => h) (by kernel_rfl) hS0 ?_
        refine gSkip 42 rfl (by kernel_rfl) (by kernel_rfl) (by kernel_rfl) (fun _ _ _ h => h) (by kernel_rfl) hS0 ?_
        refine gSkip 43 rfl (by kernel_rfl) (by kernel_rfl) (by kernel_rfl) (fun _ _ _ h => h) (by kernel_rfl) hS0 ?_
        refine gSkip 44 rfl (by kernel_rfl) (by kernel_rfl) (by kernel_rfl) (fun _ _ _ h => h) (by kernel_rfl) hS0 ?_
        refine gSkip 45 rfl (by kernel_rfl) (by kernel_rfl) (by kernel_rfl) (fun _ _ _ h => h) (by kernel_rfl) hS0 ?_
        refine gTake 46 (v := ?_) rfl (by kernel_rfl) (by kernel_rfl) (by kernel_rfl) (fun _ _ _ h => h) (by kernel_rfl) ?_ hS0 ?_
        rotate_left
        · (intro W hW; clear hW; go_simp; try with_reducible rfl)
        refine wpAnyH_done (by kernel_rfl) ?_ _
        go_simp
        go_wp2
        go_ret
        exact ⟨ret_bool HF.out.symm, hbel.trans (hS0.mono hbel.size)⟩
    · obtain rfl : k = xs.length := by omega
      by_cases l2 : 2 ≤ xs.length
      · by_cases l8 : xs.length ≤ 8
        · have HF := Lib.hid (curveOk_iff.2 ⟨fun j hj => HG.out j hj, l2, l8⟩)
          have t1 : (2 : Int) ≤ xs.length := by omega
          have t2 : (xs.length : Int) ≤ 8 := by omega
          go_wp2
          go_ret
          exact ⟨ret_bool HF.out.symm, hbel⟩
        · have HF := Lib.hid (show curveOk xs = false by rw [← Bool.not_eq_true, curveOk_iff]; exact fun hh => l8 hh.2.2)
          have t1 : (2 : Int) ≤ xs.length := by omega
          have t2 : ¬ ((xs.length : Int) ≤ 8) := by omega
          go_wp2
          go_ret
          exact ⟨ret_bool HF.out.symm, hbel⟩
      · have HF := Lib.hid (show curveOk xs = false by rw [← Bool.not_eq_true, curveOk_iff]; exact fun hh => l2 hh.2.1)
        have t1 : ¬ ((2 : Int) ≤ xs.length) := by omega
        go_wp2
        go_ret
        exact ⟨ret_bool HF.out.symm, hbel⟩
end Go.Proofs.Ytcnpddmghjjhjaa
