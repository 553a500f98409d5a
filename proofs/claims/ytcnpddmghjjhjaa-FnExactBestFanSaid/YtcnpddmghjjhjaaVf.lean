/-
  Contracts of chapter 6: the program's pressure of a fan at a flow. Conditions: those that each theorem states.
-/
import Derived.Test.YtcnpddmghjjhjaaVe
namespace Go.Proofs.Ytcnpddmghjjhjaa
open Go.RowKit
set_option linter.unusedVariables false
set_option linter.unusedSimpArgs false

set_option maxHeartbeats 2000000 in
theorem pressure_any (s : ByteArray) (a : Int) (A : Option Addr) (cap : Nat) (xs : List (List Int)) (q : Int) (w : World) (hq : I64 q) (hok : curveOk xs = true) (hr : RowsR w A xs) (hl : xs.length ≤ 1048576) (hcap : xs.length ≤ cap) (hcm : cap ≤ 1048576) :
    Calls Try.prog 56 #[.agg #[.string s, .int .i64 a, .slice A xs.length cap], .int .i64 q] w fun e w' => e = .returned (.int .i64 (prR xs q)) ∧ Below w.heap.size w w' := by
  have HR := Lib.hid hr
  have HK := Lib.hid hok
  have h28 := (curveOk_iff.1 hok).2
  clear hr
  have HCV := Lib.hid (show ∀ i (hi : i < xs.length), xs[i].length = 2 ∧ (0 ≤ cx xs i ∧ cx xs i ≤ 100000) ∧ (0 ≤ cy xs i ∧ cy xs i ≤ 10000) from fun i hi => by have := curve_pt HK.out hi; exact ⟨this.1, this.2.1, this.2.2.1⟩)
  obtain ⟨b, off, b1, off1, c1, rfl, k0, k1, k2⟩ := HR.out.two (k := 0) (by omega) (HCV.out 0 (by omega)).1
  have k0' : w.cell? ⟨b, off, none⟩ = some (.slice (some ⟨b1, off1, none⟩) 2 c1) := k0
  have kb : ¬ (b = w.heap.size) := by intro e; subst e; exact absurd (World.block_lt_of_cell? _ _ k0') (Nat.lt_irrefl _)
  have kb1 : ¬ (b1 = w.heap.size) := by intro e; subst e; exact absurd (World.block_lt_of_cell? _ _ k1) (Nat.lt_irrefl _)
  have kl := World.block_lt_of_cell? _ _ k0'
  have kl1 := World.block_lt_of_cell? _ _ k1
  have hl0 : 0 < xs.length := by omega
  have HE := Lib.hid (prI_eq hok q)
  have HZ := Lib.hid (And.intro (show cx xs 0 = cx xs 0 from rfl) (show cy xs 0 = cy xs 0 from rfl))
  obtain ⟨x, hx⟩ : ∃ x, cx xs 0 = x := ⟨_, rfl⟩
  obtain ⟨y, hy⟩ : ∃ y, cy xs 0 = y := ⟨_, rfl⟩
  rw [hx] at k1
  rw [hy] at k2
  have HXY := Lib.hid (And.intro hx hy)
  clear hok hx hy
  go_enter Try.func56, Try.ntmps56
  go_wp2_with (go_at_call 47; (with_reducible refine (pointOf_any b1 off1 c1 x y _ ((World.cell?_alloc_old _ _ _ kb1).trans k1) ((World.cell?_alloc_old _ _ _ kb1).trans k2)).mono ?_); rintro e w1 ⟨rfl, hd⟩; have HB := (show Below w.heap.size w w1 from (below_box _ _).trans (hd.mono (by simp))); obtain ⟨hc, hf⟩ := bcell hd; have hz : w.heap.size < w1.heap.size := Nat.lt_of_lt_of_le (by simp) hd.size; have hz1 : w.heap.size < w1.heap.size + 1 := (by omega); have hn1 : ¬ (w.heap.size = w1.heap.size) := (by omega); clear hd)
  obtain ⟨p0, hp0⟩ : ∃ p0, w1.heap.size = p0 := ⟨_, rfl⟩
  have hwp : w.heap.size < p0 := by omega
  obtain ⟨m, hm⟩ : ∃ m, xs.length - 1 = m := ⟨_, rfl⟩
  have HM := Lib.hid hm
  have hmx : m + 1 = xs.length := by omega
  rw [hm]
  have hB1 : Below w.heap.size w (w1.alloc (.cells #[.int .i64 x, .int .i64 y] 60)) := (by repeat (first | (with_reducible exact HB) | (with_reducible refine below_drewN' ?_ _) | (with_reducible refine Below.drew ?_) | (with_reducible refine Below.alloc ?_ (by first | omega | (simp; done) | (simp; omega)) _) | (with_reducible refine Below.setCell ?_ (by first | omega | (simp; done) | (simp; omega)) _)))
  have hblk0 : BlkV (w1.alloc (.cells #[.int .i64 x, .int .i64 y] 60)) p0 60 [.int .i64 x, .int .i64 y] := BlkV.new hp0.symm [.int .i64 x, .int .i64 y] _
  rw [hp0]
  generalize (w1.alloc (.cells #[.int .i64 x, .int .i64 y] 60)) = wA at *
  obtain ⟨ex, ey⟩ := HXY.out
  subst ex
  subst ey
  clear k0 k0' k1 k2 kb kb1 kl kl1 hc hf hz hz1 hn1 hp0 hm HZ HB HXY
  go_loopw [18] (fun i wr => ∃ k : Nat, k ≤ m ∧ i = .int .i64 k ∧ Hid (prR xs q = prI xs q (m - k) (k + 1)) ∧ BlkV wr p0 60 [.int .i64 (cx xs k), .int .i64 (cy xs k)] ∧ Below w.heap.size w wr) (fun i wr => m - (intOf i).toNat)
  case atStart => exact ⟨0, by omega, rfl, Lib.hid (by rw [← HE.out, HM.out]; rfl), hblk0, hB1⟩
  case round =>
    obtain ⟨k, hk, rfl, HG, hblk, hbel⟩ := hrel
    obtain ⟨wo, rfl⟩ : ∃ wo : World, wo = wr := ⟨_, rfl⟩
    have HBF := Lib.hid hblk
    have hp1 := hblk.lt
    have e0 := hblk.cell 0
    have e1 := hblk.cell 1
    simp only [List.getElem?_cons_zero, List.getElem?_cons_succ] at e0 e1
    clear hblk
    by_cases hlt : k < m
    · obtain ⟨g1, g2, g3⟩ := HCV.out (k + 1) (by omega)
      obtain ⟨g4, g5, g6⟩ := HCV.out k (by omega)
      obtain ⟨b', off', b3, off3, c3, eA, m2, hd0, hd1⟩ := (HR.out.below hbel).two (k := k + 1) (by omega) g1
      injection eA with eA
      injection eA with e2 e3
      subst e2
      subst e3
      rw [show off + (k + 1) = off + 1 + k by omega] at m2
      have HU := Lib.hid (show prI xs q (m - k) (k + 1) = if q < cx xs (k + 1) then lineR (cx xs k) (cy xs k) (cx xs (k + 1)) (cy xs (k + 1)) q else prI xs q (m - (k + 1)) (k + 1 + 1) by rw [show m - k = (m - (k + 1)) + 1 by omega]; rfl)
      have HEE := Lib.hid (And.intro (show cx xs (k + 1) = cx xs (k + 1) from rfl) (show cy xs (k + 1) = cy xs (k + 1) from rfl))
      clear g1 g4 HEE
      obtain ⟨x, hx⟩ : ∃ x, cx xs (k + 1) = x := ⟨_, rfl⟩
      obtain ⟨y, hy⟩ : ∃ y, cy xs (k + 1) = y := ⟨_, rfl⟩
      have HXY := Lib.hid (And.intro hx hy)
      rw [hx] at hd0 g2
      rw [hy] at hd1 g3
      have HU2 := Lib.hid (show prI xs q (m - k) (k + 1) = if q < x then lineR (cx xs k) (cy xs k) x y q else prI xs q (m - (k + 1)) (k + 1 + 1) by rw [← hx, ← hy]; exact HU.out)
      clear hx hy HU
      generalize cx xs k = x' at *
      generalize cy xs k = y' at *
      by_cases q0 : q < x
      · have HF := Lib.hid (show prR xs q = lineR x' y' x y q by rw [HG.out, HU2.out, if_pos q0])
        go_wp2_with (first
        | (go_at_call 47; (with_reducible refine (pointOf_any b3 off3 c3 x y _ hd0 hd1).mono ?_); rintro e w2 ⟨rfl, hd⟩; have hb2 := hbel.trans (hd.mono hbel.size); have HB2 := Lib.hid (HBF.out.below hd hp1); have hz2 : p0 < w2.heap.size := Nat.lt_of_lt_of_le hp1 hd.size; have hz3 : p0 < w2.heap.size + 1 := (by omega); have hn5 : ¬ (p0 = w2.heap.size) := (by omega); have g0 := HB2.out.cell 0; have g1 := HB2.out.cell 1; have gf0 := HB2.out.frozen 0; have gf1 := HB2.out.frozen 1; simp only [List.getElem?_cons_zero, List.getElem?_cons_succ] at g0 g1; clear hd)
        | (go_at_call 92; (with_reducible refine (onLine_any x' y' x y q _ (by unfold B9; omega) (by unfold B9; omega) (by unfold B9; omega) (by unfold B9; omega) hq).mono ?_); rintro e w3 ⟨rfl, n3, rfl⟩))
        go_ret
        exact ⟨ret_int HF.out.symm, (by repeat (first | (with_reducible exact hb2) | (with_reducible refine below_drewN' ?_ _) | (with_reducible refine Below.drew ?_) | (with_reducible refine Below.alloc ?_ (by first | omega | (simp; done) | (simp; omega)) _) | (with_reducible refine Below.setCell ?_ (by first | omega | (simp; done) | (simp; omega)) _)))⟩
      · have HF := Lib.hid (show prR xs q = prI xs q (m - (k + 1)) (k + 1 + 1) by rw [HG.out, HU2.out, if_neg q0])
        go_wp2_with (first
        | (go_at_call 47; (with_reducible refine (pointOf_any b3 off3 c3 x y _ hd0 hd1).mono ?_); rintro e w2 ⟨rfl, hd⟩; have hb2 := hbel.trans (hd.mono hbel.size); have HB2 := Lib.hid (HBF.out.below hd hp1); have hz2 : p0 < w2.heap.size := Nat.lt_of_lt_of_le hp1 hd.size; have hz3 : p0 < w2.heap.size + 1 := (by omega); have hn5 : ¬ (p0 = w2.heap.size) := (by omega); have g0 := HB2.out.cell 0; have g1 := HB2.out.cell 1; have gf0 := HB2.out.frozen 0; have gf1 := HB2.out.frozen 1; simp only [List.getElem?_cons_zero, List.getElem?_cons_succ] at g0 g1; clear hd)
        | (go_at_call 92; (with_reducible refine (onLine_any x' y' x y q _ (by unfold B9; omega) (by unfold B9; omega) (by unfold B9; omega) (by unfold B9; omega) hq).mono ?_); rintro e w3 ⟨rfl, n3, rfl⟩))
        go_roundw
        case rel =>
          refine ⟨k + 1, by omega, by go_num, HF, ?_, ?_⟩
          · rw [HXY.out.1, HXY.out.2]
            have key : ∀ W, BlkV W p0 60 [.int .i64 x', .int .i64 y'] → BlkV ((W.setCell ⟨p0, 0, none⟩ (.int .i64 x)).setCell ⟨p0, 1, none⟩ (.int .i64 y)) p0 60 [.int .i64 x, .int .i64 y] := fun W h => (h.setC 0 _).setC 1 _
            repeat (first | exact key _ HB2.out | refine BlkV.alloc1 ?_ _)
          · exact (by repeat (first | (with_reducible exact hb2) | (with_reducible refine below_drewN' ?_ _) | (with_reducible refine Below.drew ?_) | (with_reducible refine Below.alloc ?_ (by first | omega | (simp; done) | (simp; omega)) _) | (with_reducible refine Below.setCell ?_ (by first | omega | (simp; done) | (simp; omega)) _)))
        case measure => simp [intOf]; omega
    · obtain rfl : k = m := by omega
      have HF := Lib.hid (show prR xs q = cy xs k by rw [HG.out, Nat.sub_self]; rfl)
      go_wp2
      go_ret
      exact ⟨ret_int HF.out.symm, hbel⟩
end Go.Proofs.Ytcnpddmghjjhjaa
