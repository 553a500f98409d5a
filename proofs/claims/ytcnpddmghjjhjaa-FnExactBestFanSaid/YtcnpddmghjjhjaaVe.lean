/-
  Contracts of chapter 6: the pressure of a fan at a flow, its power; the model's and the program's. Conditions: those that each theorem states.
-/
import Derived.Test.YtcnpddmghjjhjaaVd
namespace Go.Proofs.Ytcnpddmghjjhjaa
open Go.RowKit
set_option linter.unusedVariables false
set_option linter.unusedSimpArgs false

theorem two_rows {w : World} {A : Option Addr} {xs : List (List Int)} (hr : RowsR w A xs) {k : Nat} (h1 : 1 ≤ k) (hk : k < xs.length) (h2 : xs[k].length = 2) (h3 : xs[k - 1].length = 2) :
    ∃ b off b1 off1 c1 b3 off3 c3, A = some ⟨b, off, none⟩ ∧ (w.cell? ⟨b, off + k, none⟩ = some (.slice (some ⟨b1, off1, none⟩) 2 c1) ∧ w.cell? ⟨b, off + (k - 1), none⟩ = some (.slice (some ⟨b3, off3, none⟩) 2 c3)) ∧
      (w.cell? ⟨b1, off1, none⟩ = some (.int .i64 (cx xs k)) ∧ w.cell? ⟨b1, off1 + 1, none⟩ = some (.int .i64 (cy xs k))) ∧ (w.cell? ⟨b3, off3, none⟩ = some (.int .i64 (cx xs (k - 1))) ∧ w.cell? ⟨b3, off3 + 1, none⟩ = some (.int .i64 (cy xs (k - 1)))) := by
  obtain ⟨b, off, b1, off1, c1, rfl, a1, a2, a3⟩ := hr.two hk h2
  obtain ⟨b2, off2, b3, off3, c3, e2, d1, d2, d3⟩ := hr.two (k := k - 1) (by omega) h3
  injection e2 with e2
  injection e2 with e3 e4
  subst e3
  subst e4
  exact ⟨b, off, b1, off1, c1, b3, off3, c3, rfl, ⟨a1, d1⟩, ⟨a2, a3⟩, d2, d3⟩
set_option maxHeartbeats 2000000 in
theorem l06Pressure_below (b0 o0 : Nat) (s : ByteArray) (a : Int) (A : Option Addr) (cap : Nat) (xs : List (List Int)) (q : Int) (w : World) (hq : I64 q) (hok : curveOk xs = true) (hc : FanAt w b0 o0 s a A cap xs) (hr : RowsR w A xs) (hl : xs.length ≤ 1048576) :
    Calls Try.prog 54 #[.pointer (some ⟨b0, o0, none⟩), .int .i64 q] w fun e w' => e = .returned (.int .i64 (prR xs q)) ∧ Below w.heap.size w w' := by
  have HR := Lib.hid hr
  have HC := Lib.hid hc
  have HK := Lib.hid hok
  have h28 := (curveOk_iff.1 hok).2
  clear hr hok
  have HCV := Lib.hid (show ∀ i (hi : i < xs.length), xs[i].length = 2 ∧ (0 ≤ cx xs i ∧ cx xs i ≤ 100000) ∧ (0 ≤ cy xs i ∧ cy xs i ≤ 10000) from fun i hi => by have := curve_pt HK.out hi; exact ⟨this.1, this.2.1, this.2.2.1⟩)
  obtain ⟨b, off, b1, off1, c1, rfl, k0, k1, k2⟩ := HR.out.two (k := 0) (by omega) (HCV.out 0 (by omega)).1
  have k0' : w.cell? ⟨b, off, none⟩ = some (.slice (some ⟨b1, off1, none⟩) 2 c1) := k0
  have hl0 : 0 < xs.length := by omega
  obtain ⟨-, -, hc2⟩ := hc
  by_cases h0 : q ≤ cx xs 0
  · have HE := Lib.hid (show prR xs q = cy xs 0 from if_pos h0)
    generalize cx xs 0 = x at *
    generalize cy xs 0 = y at *
    go_enter Try.func54, Try.ntmps54
    go_wp2
    go_ret
    exact ⟨ret_int HE.out.symm, Below.refl _ _⟩
  · have HE := Lib.hid (show prR xs q = prFrom xs q (xs.length - 1) 1 from if_neg h0)
    generalize cx xs 0 = x at *
    generalize cy xs 0 = y at *
    go_enter Try.func54, Try.ntmps54
    go_wp2
    clear k0 k1 k2 k0' h0
    go_loopw [6] (fun i wr => ∃ k : Nat, 1 ≤ k ∧ k ≤ xs.length ∧ i = .int .i64 k ∧ Hid (prR xs q = prFrom xs q (xs.length - k) k) ∧ Below w.heap.size w wr) (fun i wr => xs.length - (intOf i).toNat)
    case atStart => exact ⟨1, by omega, by omega, rfl, Lib.hid HE.out, Below.refl _ _⟩
    case round =>
      obtain ⟨k, hk1, hk, rfl, HG, hbel⟩ := hrel
      obtain ⟨wo, rfl⟩ : ∃ wo : World, wo = wr := ⟨_, rfl⟩
      have hc2o := (HC.out.below hbel).2.2
      by_cases hlt : k < xs.length
      · obtain ⟨g1, g2, g3⟩ := HCV.out k hlt
        obtain ⟨g4, g5, g6⟩ := HCV.out (k - 1) (by omega)
        obtain ⟨b', off', b1, off1, c1, b3, off3, c3, eA, ⟨m1, m2⟩, ⟨hc0, hc1⟩, hd0, hd1⟩ := two_rows (HR.out.below hbel) hk1 hlt g1 g4
        injection eA with eA
        injection eA with e1 e2
        subst e1
        subst e2
        have HU := Lib.hid (show prFrom xs q (xs.length - k) k = if q ≤ cx xs k then lineR (cx xs (k - 1)) (cy xs (k - 1)) (cx xs k) (cy xs k) q else prFrom xs q (xs.length - (k + 1)) (k + 1) by rw [show xs.length - k = (xs.length - (k + 1)) + 1 by omega]; rfl)
        clear g1 g4
        generalize cx xs k = x at *
        generalize cy xs k = y at *
        generalize cx xs (k - 1) = x' at *
        generalize cy xs (k - 1) = y' at *
        have hkj : (k : Int) - 1 = ((k - 1 : Nat) : Int) := by omega
        have hkl : k - 1 < xs.length := by omega
        generalize k - 1 = j at *
        have hkw : IntKind.i64.wrap ((k : Int) - 1) = (j : Int) := by rw [hkj]; exact IntWalk.i64_in _ (by omega)
        by_cases q0 : q ≤ x
        · have HF := Lib.hid (show prR xs q = lineR x' y' x y q by rw [HG.out, HU.out, if_pos q0])
          go_wp2_with fail
          refine wp_region_held (S := fun w' => w'.cell? ⟨b3, off3, none⟩ = some (.int .i64 x') ∧ w'.cell? ⟨b3, off3 + 1, none⟩ = some (.int .i64 y') ∧ w'.cell? ⟨b1, off1, none⟩ = some (.int .i64 x) ∧ w'.cell? ⟨b1, off1 + 1, none⟩ = some (.int .i64 y) ∧ Below wo.heap.size wo w') (by kernel_rfl) ?_
          try (change wpAnyH _ _ _ _ _ _ _ _ (World.drew _))
          have hS0 := (show wo.drew.cell? ⟨b3, off3, none⟩ = some (.int .i64 x') ∧ wo.drew.cell? ⟨b3, off3 + 1, none⟩ = some (.int .i64 y') ∧ wo.drew.cell? ⟨b1, off1, none⟩ = some (.int .i64 x) ∧ wo.drew.cell? ⟨b1, off1 + 1, none⟩ = some (.int .i64 y) ∧ Below wo.heap.size wo wo.drew from ⟨hd0, hd1, hc0, hc1, Below.drew (Below.refl _ _)⟩)
          refine gTake 0 (v := ?_) rfl (by kernel_rfl) (by kernel_rfl) (by kernel_rfl) (fun _ _ _ h => h) (by kernel_rfl) ?_ hS0 ?_
          rotate_left
          · (intro W hW; clear hW; go_simp; try with_reducible rfl)
          refine gTake 1 (v := ?_) rfl (by kernel_rfl) (by kernel_rfl) (by kernel_rfl) (fun _ _ _ h => h) (by kernel_rfl) ?_ hS0 ?_
          rotate_left
          · (intro W hW; clear hW; go_simp; try with_reducible rfl)
          refine gTake 2 (v := ?_) rfl (by kernel_rfl) (by kernel_rfl) (by kernel_rfl) (fun _ _ _ h => h) (by kernel_rfl) ?_ hS0 ?_
          rotate_left
          · (intro W hW; have q0 := hW.1; have q1 := hW.2.1; have q2 := hW.2.2.1; have q3 := hW.2.2.2.1; clear hW; go_simp; try with_reducible rfl)
          refine gTake 3 (v := ?_) rfl (by kernel_rfl) (by kernel_rfl) (by kernel_rfl) (fun _ _ _ h => h) (by kernel_rfl) ?_ hS0 ?_
          rotate_left
          · (intro W hW; clear hW; go_simp; try with_reducible rfl)
          refine gTake 4 (v := ?_) rfl (by kernel_rfl) (by kernel_rfl) (by kernel_rfl) (fun _ _ _ h => h) (by kernel_rfl) ?_ hS0 ?_
          rotate_left
          · (intro W hW; clear hW; go_simp; try with_reducible rfl)
          refine gTake 5 (v := ?_) rfl (by kernel_rfl) (by kernel_rfl) (by kernel_rfl) (fun _ _ _ h => h) (by kernel_rfl) ?_ hS0 ?_
          rotate_left
          · (intro W hW; have q0 := hW.1; have q1 := hW.2.1; have q2 := hW.2.2.1; have q3 := hW.2.2.2.1; clear hW; go_simp; try with_reducible rfl)
          refine gTake 6 (v := ?_) rfl (by kernel_rfl) (by kernel_rfl) (by kernel_rfl) (fun _ _ _ h => h) (by kernel_rfl) ?_ hS0 ?_
          rotate_left
          · (intro W hW; clear hW; go_simp; try with_reducible rfl)
          refine gTake 7 (v := ?_) rfl (by kernel_rfl) (by kernel_rfl) (by kernel_rfl) (fun _ _ _ h => h) (by kernel_rfl) ?_ hS0 ?_
          rotate_left
          · (intro W hW; clear hW; go_simp; try with_reducible rfl)
          refine gTake 8 (v := ?_) rfl (by kernel_rfl) (by kernel_rfl) (by kernel_rfl) (fun _ _ _ h => h) (by kernel_rfl) ?_ hS0 ?_
          rotate_left
          · (intro W hW; have q0 := hW.1; have q1 := hW.2.1; have q2 := hW.2.2.1; have q3 := hW.2.2.2.1; clear hW; go_simp; try with_reducible rfl)
          refine gTake 9 (v := ?_) rfl (by kernel_rfl) (by kernel_rfl) (by kernel_rfl) (fun _ _ _ h => h) (by kernel_rfl) ?_ hS0 ?_
          rotate_left
          · (intro W hW; clear hW; go_simp; try with_reducible rfl)
          refine gTake 10 (v := ?_) rfl (by kernel_rfl) (by kernel_rfl) (by kernel_rfl) (fun _ _ _ h => h) (by kernel_rfl) ?_ hS0 ?_
          rotate_left
          · (intro W hW; clear hW; go_simp; try with_reducible rfl)
          refine gTake 11 (v := ?_) rfl (by kernel_rfl) (by kernel_rfl) (by kernel_rfl) (fun _ _ _ h => h) (by kernel_rfl) ?_ hS0 ?_
          rotate_left
          · (intro W hW; have q0 := hW.1; have q1 := hW.2.1; have q2 := hW.2.2.1; have q3 := hW.2.2.2.1; clear hW; go_simp; try with_reducible rfl)
          refine gTake 12 (v := ?_) rfl (by kernel_rfl) (by kernel_rfl) (by kernel_rfl) (fun _ _ _ h => h) (by kernel_rfl) ?_ hS0 ?_
          rotate_left
          · (intro W hW; clear hW; go_simp; try with_reducible rfl)
          refine gOne 13 rfl (by kernel_rfl) (by kernel_rfl) (fun K hK => ?_)
          go_simp
          go_at_call 91
          (with_reducible refine (l01Line_any x' y' x y q _ (by unfold B9; omega) (by unfold B9; omega) (by unfold B9; omega) (by unfold B9; omega) hq).mono ?_)
          rintro e w' ⟨rfl, rfl⟩
          try go_simp
          have hS1 := hS0
          refine hK _ _ hS1 ?_
          clear hK K
          refine gTake 14 (v := ?_) rfl (by kernel_rfl) (by kernel_rfl) (by kernel_rfl) (fun _ _ _ h => h) (by kernel_rfl) ?_ hS1 ?_
          rotate_left
          · (intro W hW; clear hW; go_simp; try with_reducible rfl)
          refine wpAnyH_done (by kernel_rfl) ?_ _
          go_simp
          go_wp2
          go_ret
          exact ⟨ret_int HF.out.symm, hbel.trans (hS1.2.2.2.2.mono hbel.size)⟩
        · have HF := Lib.hid (show prR xs q = prFrom xs q (xs.length - (k + 1)) (k + 1) by rw [HG.out, HU.out, if_neg q0])
          go_wp2
          go_roundw
          case rel => exact ⟨k + 1, by omega, by omega, by go_num, HF, hbel⟩
          case measure => simp [intOf]; omega
      · obtain rfl : k = xs.length := by omega
        obtain ⟨g4, g5, g6⟩ := HCV.out (xs.length - 1) (by omega)
        obtain ⟨b', off', b3, off3, c3, eA, m2, hd0, hd1⟩ := (HR.out.below hbel).two (k := xs.length - 1) (by omega) g4
        injection eA with eA
        injection eA with e1 e2
        subst e1
        subst e2
        have HF := Lib.hid (show prR xs q = cy xs (xs.length - 1) by rw [HG.out, Nat.sub_self]; rfl)
        clear g4
        generalize cx xs (xs.length - 1) = x' at *
        generalize cy xs (xs.length - 1) = y' at *
        have hkj : (xs.length : Int) - 1 = ((xs.length - 1 : Nat) : Int) := by omega
        have hkl : xs.length - 1 < xs.length := by omega
        have hkw : IntKind.i64.wrap ((xs.length : Int) - 1) = ((xs.length - 1 : Nat) : Int) := by rw [hkj]; exact IntWalk.i64_in _ (by omega)
        obtain ⟨j, hj⟩ : ∃ j, xs.length - 1 = j := ⟨_, rfl⟩
        rw [hj] at *
        go_wp2
        go_ret
        exact ⟨ret_int HF.out.symm, hbel⟩
end Go.Proofs.Ytcnpddmghjjhjaa
