/-
  Contracts of chapter 6: SurgeFlow and WorkingPoint; the model's and the program's. Conditions: those that each theorem states.
-/
import Derived.Test.YtcnpddmghjjhjaaVh
namespace Go.Proofs.Ytcnpddmghjjhjaa
open Go.RowKit
set_option linter.unusedVariables false
set_option linter.unusedSimpArgs false

theorem cell_new {w : World} {b : Nat} {v : Value} {t : TypeId} (h : b = w.heap.size) : (w.alloc (.cells #[v] t)).cell? ⟨b, 0, none⟩ = some v := by
  subst h
  rw [World.cell?_alloc_new]
  rfl
theorem cell_newD {w : World} {b : Nat} {v : Value} {t : TypeId} (h : b = w.heap.size) : (w.alloc (.cells #[v] t)).drew.cell? ⟨b, 0, none⟩ = some v := cell_new h
/-- A block of two cells. -/
def Blk2 (w : World) (p : Nat) (t : TypeId) : Prop := ∃ u v : Value, BlkV w p t [u, v]
theorem Blk2.below {w w' : World} {p : Nat} {t : TypeId} (h : Blk2 w p t) (hb : Below w.heap.size w w') : Blk2 w' p t := by
  obtain ⟨u, v, h⟩ := h
  exact ⟨u, v, BlkV.below h hb (BlkV.lt h)⟩
theorem Blk2.parts {w : World} {p : Nat} {t : TypeId} (h : Blk2 w p t) : (∃ u, w.cell? ⟨p, 0, none⟩ = some u) ∧ (∃ u, w.cell? ⟨p, 1, none⟩ = some u) ∧ w.frozen? ⟨p, 0, none⟩ = false ∧ w.frozen? ⟨p, 1, none⟩ = false := by
  obtain ⟨u, v, h⟩ := h
  exact ⟨⟨u, h.cell 0⟩, ⟨v, h.cell 1⟩, h.frozen 0, h.frozen 1⟩
theorem Blk2.set {w : World} {p : Nat} {t : TypeId} (h : Blk2 w p t) (x y : Value) : Blk2 ((w.setCell ⟨p, 0, none⟩ x).setCell ⟨p, 1, none⟩ y) p t := by
  obtain ⟨u, v, h⟩ := h
  exact ⟨x, y, (h.setC 0 x).setC 1 y⟩
theorem World.cell?_setCell_other2 {w : World} {p q q' : Addr} {v x y : Value} (h : w.cell? p = some v) (h1 : p.block ≠ q.block) (h2 : p.block ≠ q'.block) : ((w.setCell q x).setCell q' y).cell? p = some v := by
  have e1 := Below.heap_setCell w q x p.block h1
  have e2 := Below.heap_setCell (w.setCell q x) q' y p.block h2
  unfold World.cell? at h ⊢
  rw [e2, e1]
  exact h
/-- Where a fan works. -/
def wpQ (xs : List (List Int)) (r : Int) : Int := (lastN (pDrp xs r) : Int)
theorem workingPoint_any (s : ByteArray) (a : Int) (A : Option Addr) (cap : Nat) (xs : List (List Int)) (r : Int) (w : World) (hrr : 1 ≤ r ∧ r ≤ 1000000) (hok : curveOk xs = true) (hr : RowsR w A xs) (hl : xs.length ≤ 1048576) (hcap : xs.length ≤ cap) (hcm : cap ≤ 1048576) :
    Calls Try.prog 63 #[.agg #[.string s, .int .i64 a, .slice A xs.length cap], .int .i64 r] w fun e w' => e = .returned (.agg #[.int .i64 (wpQ xs r), .int .i64 (prR xs (wpQ xs r))]) ∧ Below w.heap.size w w' := by
  have hB : Below w.heap.size w ((w.alloc (.cells #[.string s, .int .i64 a, .slice A xs.length cap] 27)).alloc (.cells #[.int .i64 0, .int .i64 0] 60)) := (below_box _ _).alloc (by simp) _
  have HR := Lib.hid hr
  have HOK := Lib.hid hok
  have HQ := Lib.hid (lastN_spec (pDrp xs r) (pDrp_mono hok hrr.1)).1
  have hq64 : I64 (lastN (pDrp xs r) : Int) := by have := HQ.out; unfold I64; omega
  obtain ⟨f0, f1, f2⟩ := (show FanAt ((w.alloc (.cells #[.string s, .int .i64 a, .slice A xs.length cap] 27)).alloc (.cells #[.int .i64 0, .int .i64 0] 60)) w.heap.size 0 s a A cap xs from (fanBoxed s a A cap xs w).below (below_box _ _))
  have fb : Blk2 ((w.alloc (.cells #[.string s, .int .i64 a, .slice A xs.length cap] 27)).alloc (.cells #[.int .i64 0, .int .i64 0] 60)) (w.heap.size + 1) 60 := ⟨_, _, BlkV.new (by simp) [.int .i64 0, .int .i64 0] _⟩
  have hqp : ¬ (w.heap.size = w.heap.size + 1) := by omega
  clear hr hok
  go_enter Try.func63, Try.ntmps63
  go_wp2_with fail
  refine wp_region_held (S := fun w' => w'.cell? ⟨w.heap.size, 0, none⟩ = some (.string s) ∧ w'.cell? ⟨w.heap.size, 1, none⟩ = some (.int .i64 a) ∧ w'.cell? ⟨w.heap.size, 2, none⟩ = some (.slice A xs.length cap) ∧ Blk2 w' (w.heap.size + 1) 60 ∧ Below w.heap.size w w') (by kernel_rfl) ?_
  try (change wpAnyH _ _ _ _ _ _ _ _ (World.drew _))
  have hS0 := (show ((w.alloc (.cells #[.string s, .int .i64 a, .slice A xs.length cap] 27)).alloc (.cells #[.int .i64 0, .int .i64 0] 60)).drew.cell? ⟨w.heap.size, 0, none⟩ = some (.string s) ∧ ((w.alloc (.cells #[.string s, .int .i64 a, .slice A xs.length cap] 27)).alloc (.cells #[.int .i64 0, .int .i64 0] 60)).drew.cell? ⟨w.heap.size, 1, none⟩ = some (.int .i64 a) ∧ ((w.alloc (.cells #[.string s, .int .i64 a, .slice A xs.length cap] 27)).alloc (.cells #[.int .i64 0, .int .i64 0] 60)).drew.cell? ⟨w.heap.size, 2, none⟩ = some (.slice A xs.length cap) ∧ Blk2 ((w.alloc (.cells #[.string s, .int .i64 a, .slice A xs.length cap] 27)).alloc (.cells #[.int .i64 0, .int .i64 0] 60)).drew (w.heap.size + 1) 60 ∧ Below w.heap.size w ((w.alloc (.cells #[.string s, .int .i64 a, .slice A xs.length cap] 27)).alloc (.cells #[.int .i64 0, .int .i64 0] 60)).drew from ⟨f0, f1, f2, fb, Below.drew hB⟩)
  refine gTake 0 (v := ?_) rfl (by kernel_rfl) (by kernel_rfl) (by kernel_rfl) (fun _ _ _ h => h) (by kernel_rfl) ?_ hS0 ?_
  rotate_left
  · (intro W hW; have q0 := hW.1; have q1 := hW.2.1; have q2 := hW.2.2.1; have q3 := hW.2.2.2.1; clear hW; go_simp; try with_reducible rfl)
  refine gTake 1 (v := ?_) rfl (by kernel_rfl) (by kernel_rfl) (by kernel_rfl) (fun _ _ _ h => h) (by kernel_rfl) ?_ hS0 ?_
  rotate_left
  · (intro W hW; have q0 := hW.1; have q1 := hW.2.1; have q2 := hW.2.2.1; have q3 := hW.2.2.2.1; clear hW; go_simp; try with_reducible rfl)
  refine gTake 2 (v := ?_) rfl (by kernel_rfl) (by kernel_rfl) (by kernel_rfl) (fun _ _ _ h => h) (by kernel_rfl) ?_ hS0 ?_
  rotate_left
  · (intro W hW; clear hW; go_simp; try with_reducible rfl)
  refine gOne 3 rfl (by kernel_rfl) (by kernel_rfl) (fun K hK => ?_)
  go_simp
  go_at_call 97
  (with_reducible refine (dropCurve_any r _).mono ?_)
  rintro e w' ⟨rfl, rfl⟩
  try go_simp
  refine viaS (hK _ _) ?_ (fun hS1 => ?_)
  · exact ⟨cellK hS0.1 (below_box _ _), cellK hS0.2.1 (below_box _ _), cellK hS0.2.2.1 (below_box _ _), Blk2.below hS0.2.2.2.1 (below_box _ _), hS0.2.2.2.2.alloc (by first | (simp; done) | (simp; omega)) _⟩
  clear hK K
  refine gOne 4 rfl (by kernel_rfl) (by kernel_rfl) (fun K hK => ?_)
  go_simp
  go_at_call 58
  (with_reducible refine (lastFlowDrp_any _ s a A cap xs r _ hrr HOK.out (cell_newD (by simp)) (HR.out.below hS1.2.2.2.2) hl hcap hcm).mono ?_)
  rintro e wq1 ⟨rfl, hdq1⟩
  try go_simp
  have hS2 := (show wq1.cell? ⟨w.heap.size, 0, none⟩ = some (.string s) ∧ wq1.cell? ⟨w.heap.size, 1, none⟩ = some (.int .i64 a) ∧ wq1.cell? ⟨w.heap.size, 2, none⟩ = some (.slice A xs.length cap) ∧ Blk2 wq1 (w.heap.size + 1) 60 ∧ Below w.heap.size w wq1 from ⟨cellK hS1.1 hdq1, cellK hS1.2.1 hdq1, cellK hS1.2.2.1 hdq1, Blk2.below hS1.2.2.2.1 hdq1, hS1.2.2.2.2.trans (hdq1.mono hS1.2.2.2.2.size)⟩)
  refine hK _ _ hS2 ?_
  clear hK K
  refine gOne 5 rfl (by kernel_rfl) (by kernel_rfl) (fun K hK => ?_)
  go_simp
  go_at_call 65
  (with_reducible refine (at_any s a A cap xs (lastN (pDrp xs r) : Int) _ hq64 HOK.out (HR.out.below hS2.2.2.2.2) hl hcap hcm).mono ?_)
  rintro e wq2 ⟨rfl, hdq2⟩
  try go_simp
  have hS3 := (show wq2.cell? ⟨w.heap.size, 0, none⟩ = some (.string s) ∧ wq2.cell? ⟨w.heap.size, 1, none⟩ = some (.int .i64 a) ∧ wq2.cell? ⟨w.heap.size, 2, none⟩ = some (.slice A xs.length cap) ∧ Blk2 wq2 (w.heap.size + 1) 60 ∧ Below w.heap.size w wq2 from ⟨cellK hS2.1 hdq2, cellK hS2.2.1 hdq2, cellK hS2.2.2.1 hdq2, Blk2.below hS2.2.2.2.1 hdq2, hS2.2.2.2.2.trans (hdq2.mono hS2.2.2.2.2.size)⟩)
  refine hK _ _ hS3 ?_
  clear hK K
  refine gOne 6 rfl (by kernel_rfl) (by kernel_rfl) (fun K hK => ?_)
  go_simp
  obtain ⟨⟨u0, g0⟩, ⟨u1, g1⟩, z0, z1⟩ := Blk2.parts hS3.2.2.2.1
  go_simp
  refine viaS (hK _ _) ?_ (fun hS4 => ?_)
  · exact ⟨(World.cell?_setCell_other2 hS3.1 (by simp) (by simp)), (World.cell?_setCell_other2 hS3.2.1 (by simp) (by simp)), (World.cell?_setCell_other2 hS3.2.2.1 (by simp) (by simp)), Blk2.set hS3.2.2.2.1 _ _, (hS3.2.2.2.2.setCell (by simp) _).setCell (by simp) _⟩
  clear hK K
  refine wpAnyH_done (by kernel_rfl) ?_ _
  go_simp
  go_wp2
  refine bodyPost_ret (v := .agg #[.int .i64 (wpQ xs r), .int .i64 (prR xs (wpQ xs r))]) (by simp [results, Try.results63, go_sem, wpQ, World.cell?_setCell_same', World.cell?_setCell_other, g0, g1]) rfl ⟨rfl, hS4.2.2.2.2⟩
def sgA (s : ByteArray) (a : Int) (xs : List (List Int)) : Int := if fanOk s a xs then (lastN (pLev xs (cy xs 0)) : Int) else 0
def sgC (s : ByteArray) (a : Int) (xs : List (List Int)) : Int := if fanOk s a xs then 0 else 1
theorem pr_zero {xs : List (List Int)} (h : curveOk xs = true) : prR xs 0 = cy xs 0 := by
  have := (curve_pt h (i := 0) (by have := (curveOk_iff.1 h).2; omega)).2.1
  exact if_pos this.1
theorem lastL_zero {xs : List (List Int)} (h : curveOk xs = true) : lastL xs (cy xs 0) = (lastN (pLev xs (cy xs 0)) : Int) := by
  unfold lastL
  rw [if_neg (by rw [pr_zero h]; omega)]
theorem sSurgeFlow_any (s : ByteArray) (a : Int) (A : Option Addr) (cap : Nat) (xs : List (List Int)) (w : World) (hr : RowsR w A xs) (hs : s.size ≤ 1048576) (hl : xs.length ≤ 1048576) (hx : ∀ r ∈ xs, r.length ≤ 1048576) :
    Calls Try.prog 27 #[.agg #[.string s, .int .i64 a, .slice A xs.length cap]] w fun e w' => e = .returned (.tuple #[.int .i64 (sgA s a xs), .int .i64 (sgC s a xs)]) ∧ Below w.heap.size w w' := by
  have HR := Lib.hid (hr.below (below_box w (.cells #[.string s, .int .i64 a, .slice A xs.length cap] 27)))
  have HX := Lib.hid hx
  clear hr hx
  cases hok : fanOk s a xs
  · have HE := Lib.hid (show sgA s a xs = 0 ∧ sgC s a xs = 1 by simp [sgA, sgC, hok])
    go_enter Try.func27, Try.ntmps27
    go_wp2_with (first
          | (go_at_call 42; (with_reducible refine (l06Ok_below w.heap.size 0 s a A cap xs (w.alloc (.cells #[.string s, .int .i64 a, .slice A xs.length cap] 27)) ((fanBoxed s a A cap xs w).below (Below.refl _ (w.alloc (.cells #[.string s, .int .i64 a, .slice A xs.length cap] 27)))) (HR.out.below (Below.refl _ (w.alloc (.cells #[.string s, .int .i64 a, .slice A xs.length cap] 27)))) hs hl HX.out).mono ?_); rintro e w1 ⟨rfl, hd1⟩; have hb1 := hd1; obtain ⟨hc1, hf1⟩ := bcell hb1; have hz1 : w.heap.size < w1.heap.size := Nat.lt_of_lt_of_le (by first | (simp; done) | (simp; omega)) hb1.size; clear hd1))
    go_ret2
    exact ⟨ret_two HE.out.1.symm HE.out.2.symm, (show Below w.heap.size w w1 from (below_box _ _).trans (hb1.mono (by simp)))⟩
  · have HOK := Lib.hid (fanOk_curve hok)
    have HE := Lib.hid (show sgA s a xs = lastL xs (cy xs 0) ∧ sgC s a xs = 0 by rw [lastL_zero HOK.out]; simp [sgA, sgC, hok])
    have hl0 : 0 < xs.length := by have := (curveOk_iff.1 HOK.out).2; omega
    go_enter Try.func27, Try.ntmps27
    go_wp2_with (first
          | (go_at_call 42; (with_reducible refine (l06Ok_below w.heap.size 0 s a A cap xs (w.alloc (.cells #[.string s, .int .i64 a, .slice A xs.length cap] 27)) ((fanBoxed s a A cap xs w).below (Below.refl _ (w.alloc (.cells #[.string s, .int .i64 a, .slice A xs.length cap] 27)))) (HR.out.below (Below.refl _ (w.alloc (.cells #[.string s, .int .i64 a, .slice A xs.length cap] 27)))) hs hl HX.out).mono ?_); rintro e w1 ⟨rfl, hd1⟩; have hb1 := hd1; obtain ⟨hc1, hf1⟩ := bcell hb1; have hz1 : w.heap.size < w1.heap.size := Nat.lt_of_lt_of_le (by first | (simp; done) | (simp; omega)) hb1.size; clear hd1; obtain ⟨b, off, b1, off1, c1, rfl, k0, k1, k2⟩ := (HR.out.below hb1).two (k := 0) hl0 (curve_pt HOK.out hl0).1; have k0' := (show w1.cell? ⟨b, off, none⟩ = some (.slice (some ⟨b1, off1, none⟩) 2 c1) from k0))
          | (go_at_call 57; (with_reducible refine (l06Last_below w.heap.size 0 s a (some ⟨b, off, none⟩) cap xs (cy xs 0) w1 HOK.out (FanAt.below (fanBoxed s a (some ⟨b, off, none⟩) cap xs w) hb1) (HR.out.below hb1) hl).mono ?_); rintro e w2 ⟨rfl, hd2⟩; have hb2 := hb1.trans (hd2.mono hb1.size); obtain ⟨hc2, hf2⟩ := bcell hb2; have hz2 : w.heap.size < w2.heap.size := Nat.lt_of_lt_of_le (by first | (simp; done) | (simp; omega)) hb2.size; clear hd2))
    go_ret2
    exact ⟨ret_two HE.out.1.symm HE.out.2.symm, (show Below w.heap.size w w2 from (below_box _ _).trans (hb2.mono (by simp)))⟩
theorem iSurgeFlow_any (s : ByteArray) (a : Int) (A : Option Addr) (cap : Nat) (xs : List (List Int)) (w : World) (hr : RowsR w A xs) (hs : s.size ≤ 1048576) (hl : xs.length ≤ 1048576) (hx : ∀ r ∈ xs, r.length ≤ 1048576) (hcap : xs.length ≤ cap) (hcm : cap ≤ 1048576) :
    Calls Try.prog 28 #[.agg #[.string s, .int .i64 a, .slice A xs.length cap]] w fun e w' => e = .returned (.tuple #[.int .i64 (sgA s a xs), .int .i64 (sgC s a xs)]) ∧ Below w.heap.size w w' := by
  have HR := Lib.hid (hr.below (below_box w (.cells #[.string s, .int .i64 a, .slice A xs.length cap] 27)))
  have HX := Lib.hid hx
  clear hr hx
  cases hok : fanOk s a xs
  · have HE := Lib.hid (show sgA s a xs = 0 ∧ sgC s a xs = 1 by simp [sgA, sgC, hok])
    go_enter Try.func28, Try.ntmps28
    go_wp2_with (first
          | (go_at_call 16; (with_reducible refine (iValidFan_any s a A cap xs (w.alloc (.cells #[.string s, .int .i64 a, .slice A xs.length cap] 27)) (HR.out.below (Below.refl _ (w.alloc (.cells #[.string s, .int .i64 a, .slice A xs.length cap] 27)))) hs hl HX.out).mono ?_); rintro e w1 ⟨rfl, hd1⟩; have hb1 := hd1; obtain ⟨hc1, hf1⟩ := bcell hb1; have hz1 : w.heap.size < w1.heap.size := Nat.lt_of_lt_of_le (by first | (simp; done) | (simp; omega)) hb1.size; clear hd1))
    go_ret2
    exact ⟨ret_two HE.out.1.symm HE.out.2.symm, (show Below w.heap.size w w1 from (below_box _ _).trans (hb1.mono (by simp)))⟩
  · have HOK := Lib.hid (fanOk_curve hok)
    have HE := Lib.hid (show sgA s a xs = (lastN (pLev xs (cy xs 0)) : Int) ∧ sgC s a xs = 0 by simp [sgA, sgC, hok])
    have HP := Lib.hid (pr_zero HOK.out)
    go_enter Try.func28, Try.ntmps28
    go_wp2_with (first
          | (go_at_call 16; (with_reducible refine (iValidFan_any s a A cap xs (w.alloc (.cells #[.string s, .int .i64 a, .slice A xs.length cap] 27)) (HR.out.below (Below.refl _ (w.alloc (.cells #[.string s, .int .i64 a, .slice A xs.length cap] 27)))) hs hl HX.out).mono ?_); rintro e w1 ⟨rfl, hd1⟩; have hb1 := hd1; obtain ⟨hc1, hf1⟩ := bcell hb1; have hz1 : w.heap.size < w1.heap.size := Nat.lt_of_lt_of_le (by first | (simp; done) | (simp; omega)) hb1.size; clear hd1))
    obtain ⟨f0, f1, f2⟩ := ((fanBoxed s a A cap xs w).below hb1)
    refine wp_region_held (S := fun w' => w'.cell? ⟨w.heap.size, 0, none⟩ = some (.string s) ∧ w'.cell? ⟨w.heap.size, 1, none⟩ = some (.int .i64 a) ∧ w'.cell? ⟨w.heap.size, 2, none⟩ = some (.slice A xs.length cap) ∧ Below w1.heap.size w1 w') (by kernel_rfl) ?_
    try (change wpAnyH _ _ _ _ _ _ _ _ (World.drew _))
    have hS0 := (show w1.drew.cell? ⟨w.heap.size, 0, none⟩ = some (.string s) ∧ w1.drew.cell? ⟨w.heap.size, 1, none⟩ = some (.int .i64 a) ∧ w1.drew.cell? ⟨w.heap.size, 2, none⟩ = some (.slice A xs.length cap) ∧ Below w1.heap.size w1 w1.drew from ⟨f0, f1, f2, Below.drew (Below.refl _ _)⟩)
    refine gTake 0 (v := ?_) rfl (by kernel_rfl) (by kernel_rfl) (by kernel_rfl) (fun _ _ _ h => h) (by kernel_rfl) ?_ hS0 ?_
    rotate_left
    · (intro W hW; have q0 := hW.1; have q1 := hW.2.1; have q2 := hW.2.2.1; clear hW; go_simp; try with_reducible rfl)
    refine gTake 1 (v := ?_) rfl (by kernel_rfl) (by kernel_rfl) (by kernel_rfl) (fun _ _ _ h => h) (by kernel_rfl) ?_ hS0 ?_
    rotate_left
    · (intro W hW; have q0 := hW.1; have q1 := hW.2.1; have q2 := hW.2.2.1; clear hW; go_simp; try with_reducible rfl)
    refine gOne 2 rfl (by kernel_rfl) (by kernel_rfl) (fun K hK => ?_)
    go_simp
    go_at_call 56
    (with_reducible refine (pressure_any s a A cap xs 0 _ (by unfold I64; omega) HOK.out (HR.out.below (hb1.trans (hS0.2.2.2.mono hb1.size))) hl hcap hcm).mono ?_)
    rintro e wq0 ⟨rfl, hdq0⟩
    try go_simp
    have hS1 := (show wq0.cell? ⟨w.heap.size, 0, none⟩ = some (.string s) ∧ wq0.cell? ⟨w.heap.size, 1, none⟩ = some (.int .i64 a) ∧ wq0.cell? ⟨w.heap.size, 2, none⟩ = some (.slice A xs.length cap) ∧ Below w1.heap.size w1 wq0 from ⟨cellK hS0.1 hdq0, cellK hS0.2.1 hdq0, cellK hS0.2.2.1 hdq0, hS0.2.2.2.trans (hdq0.mono hS0.2.2.2.size)⟩)
    refine hK _ _ hS1 ?_
    clear hK K
    refine gOne 3 rfl (by kernel_rfl) (by kernel_rfl) (fun K hK => ?_)
    go_simp
    rw [HP.out]
    go_at_call 59
    (with_reducible refine (levelCurve_any (cy xs 0) _).mono ?_)
    rintro e w' ⟨rfl, rfl⟩
    try go_simp
    refine viaS (hK _ _) ?_ (fun hS2 => ?_)
    · exact ⟨cellK hS1.1 (below_box _ _), cellK hS1.2.1 (below_box _ _), cellK hS1.2.2.1 (below_box _ _), hS1.2.2.2.trans ((below_box _ _).mono hS1.2.2.2.size)⟩
    clear hK K
    refine gOne 4 rfl (by kernel_rfl) (by kernel_rfl) (fun K hK => ?_)
    go_simp
    go_at_call 58
    (with_reducible refine (lastFlowLev_any _ s a A cap xs (cy xs 0) _ HOK.out (cell_new (by simp)) (HR.out.below (hb1.trans (hS2.2.2.2.mono hb1.size))) hl hcap hcm).mono ?_)
    rintro e wq2 ⟨rfl, hdq2⟩
    try go_simp
    have hS3 := (show wq2.cell? ⟨w.heap.size, 0, none⟩ = some (.string s) ∧ wq2.cell? ⟨w.heap.size, 1, none⟩ = some (.int .i64 a) ∧ wq2.cell? ⟨w.heap.size, 2, none⟩ = some (.slice A xs.length cap) ∧ Below w1.heap.size w1 wq2 from ⟨cellK hS2.1 hdq2, cellK hS2.2.1 hdq2, cellK hS2.2.2.1 hdq2, hS2.2.2.2.trans (hdq2.mono hS2.2.2.2.size)⟩)
    refine hK _ _ hS3 ?_
    clear hK K
    refine gTake 5 (v := ?_) rfl (by kernel_rfl) (by kernel_rfl) (by kernel_rfl) (fun _ _ _ h => h) (by kernel_rfl) ?_ hS3 ?_
    rotate_left
    · (intro W hW; clear hW; go_simp; try with_reducible rfl)
    refine gTake 6 (v := ?_) rfl (by kernel_rfl) (by kernel_rfl) (by kernel_rfl) (fun _ _ _ h => h) (by kernel_rfl) ?_ hS3 ?_
    rotate_left
    · (intro W hW; clear hW; go_simp; try with_reducible rfl)
    refine wpAnyH_done (by kernel_rfl) ?_ _
    go_simp
    go_wp2
    go_ret2
    exact ⟨ret_two HE.out.1.symm HE.out.2.symm, (below_box _ _).trans ((hb1.trans (hS3.2.2.2.mono hb1.size)).mono (by simp))⟩
def wpC (s : ByteArray) (a : Int) (xs : List (List Int)) (r : Int) : Int := if fanOk s a xs then (if inB r 1 1000000 then 0 else 2) else 1
def wpA (s : ByteArray) (a : Int) (xs : List (List Int)) (r : Int) : Int := if fanOk s a xs && inB r 1 1000000 then wpQ xs r else 0
def wpB (s : ByteArray) (a : Int) (xs : List (List Int)) (r : Int) : Int := if fanOk s a xs && inB r 1 1000000 then prR xs (wpQ xs r) else 0
theorem ret_3 {a b c a' b' c' : Int} (h : a = a') (k : b = b') (l : c = c') : Ending.returned (.tuple #[.int .i64 a, .int .i64 b, .int .i64 c]) = .returned (.tuple #[.int .i64 a', .int .i64 b', .int .i64 c']) := by rw [h, k, l]
theorem wpQ_bd {xs : List (List Int)} (h : curveOk xs = true) {r : Int} (hr : 1 ≤ r) : 0 ≤ wpQ xs r ∧ wpQ xs r ≤ 100000 := by
  have := (lastN_spec (pDrp xs r) (pDrp_mono h hr)).1
  unfold wpQ
  omega
set_option maxHeartbeats 1000000 in
theorem sWorkingPoint_any (s : ByteArray) (a : Int) (A : Option Addr) (cap : Nat) (xs : List (List Int)) (r : Int) (w : World) (hr : RowsR w A xs) (hs : s.size ≤ 1048576) (hl : xs.length ≤ 1048576) (hx : ∀ r ∈ xs, r.length ≤ 1048576) :
    Calls Try.prog 29 #[.agg #[.string s, .int .i64 a, .slice A xs.length cap], .int .i64 r] w fun e w' => e = .returned (.tuple #[.int .i64 (wpA s a xs r), .int .i64 (wpB s a xs r), .int .i64 (wpC s a xs r)]) ∧ Below w.heap.size w w' := by
  have HR := Lib.hid (hr.below (below_box w (.cells #[.string s, .int .i64 a, .slice A xs.length cap] 27)))
  have HX := Lib.hid hx
  clear hr hx
  cases hok : fanOk s a xs
  · have HE := Lib.hid (show wpA s a xs r = 0 ∧ wpB s a xs r = 0 ∧ wpC s a xs r = 1 by simp [wpA, wpB, wpC, hok])
    go_enter Try.func29, Try.ntmps29
    go_wp2_with (first
          | (go_at_call 42; (with_reducible refine (l06Ok_below w.heap.size 0 s a A cap xs (w.alloc (.cells #[.string s, .int .i64 a, .slice A xs.length cap] 27)) ((fanBoxed s a A cap xs w).below (Below.refl _ (w.alloc (.cells #[.string s, .int .i64 a, .slice A xs.length cap] 27)))) (HR.out.below (Below.refl _ (w.alloc (.cells #[.string s, .int .i64 a, .slice A xs.length cap] 27)))) hs hl HX.out).mono ?_); rintro e w1 ⟨rfl, hd1⟩; have hb1 := hd1; obtain ⟨hc1, hf1⟩ := bcell hb1; have hz1 : w.heap.size < w1.heap.size := Nat.lt_of_lt_of_le (by first | (simp; done) | (simp; omega)) hb1.size; clear hd1))
    go_ret3
    exact ⟨ret_3 HE.out.1.symm HE.out.2.1.symm HE.out.2.2.symm, (show Below w.heap.size w w1 from (below_box _ _).trans (hb1.mono (by simp)))⟩
  · have HOK := Lib.hid (fanOk_curve hok)
    by_cases hrr : 1 ≤ r ∧ r ≤ 1000000
    · have j0 := inB_true hrr.1 hrr.2
      have HE := Lib.hid (show wpA s a xs r = wpQ xs r ∧ wpB s a xs r = prR xs (wpQ xs r) ∧ wpC s a xs r = 0 by simp [wpA, wpB, wpC, hok, j0])
      have hq64 : I64 (wpQ xs r) := by have := wpQ_bd HOK.out hrr.1; unfold I64; omega
      go_enter Try.func29, Try.ntmps29
      go_wp2_with (first
            | (go_at_call 42; (with_reducible refine (l06Ok_below w.heap.size 0 s a A cap xs (w.alloc (.cells #[.string s, .int .i64 a, .slice A xs.length cap] 27)) ((fanBoxed s a A cap xs w).below (Below.refl _ (w.alloc (.cells #[.string s, .int .i64 a, .slice A xs.length cap] 27)))) (HR.out.below (Below.refl _ (w.alloc (.cells #[.string s, .int .i64 a, .slice A xs.length cap] 27)))) hs hl HX.out).mono ?_); rintro e w1 ⟨rfl, hd1⟩; have hb1 := hd1; obtain ⟨hc1, hf1⟩ := bcell hb1; have hz1 : w.heap.size < w1.heap.size := Nat.lt_of_lt_of_le (by first | (simp; done) | (simp; omega)) hb1.size; clear hd1)
            | (go_at_call 60; (with_reducible refine (l03Res_any _ _).mono ?_); rintro e w' ⟨rfl, rfl⟩)
            | (go_at_call 61; (with_reducible refine (show Calls _ _ _ _ (fun e w' => e = .returned (.int .i64 (wpQ xs r)) ∧ Below _ _ w') from l06Point_below w.heap.size 0 s a A cap xs r w1 hrr HOK.out ((fanBoxed s a A cap xs w).below hb1) (HR.out.below hb1) hl).mono ?_); rintro e w2 ⟨rfl, hd2⟩; have hb2 := hb1.trans (hd2.mono hb1.size); obtain ⟨hc2, hf2⟩ := bcell hb2; have hz2 : w.heap.size < w2.heap.size := Nat.lt_of_lt_of_le (by first | (simp; done) | (simp; omega)) hb2.size; clear hd2)
            | (go_at_call 54; (with_reducible refine (l06Pressure_below w.heap.size 0 s a A cap xs (wpQ xs r) w2 hq64 HOK.out ((fanBoxed s a A cap xs w).below hb2) (HR.out.below hb2) hl).mono ?_); rintro e w3 ⟨rfl, hd3⟩; have hb3 := hb2.trans (hd3.mono hb2.size); obtain ⟨hc3, hf3⟩ := bcell hb3; have hz3 : w.heap.size < w3.heap.size := Nat.lt_of_lt_of_le (by first | (simp; done) | (simp; omega)) hb3.size; clear hd3))
      go_ret3
      exact ⟨ret_3 HE.out.1.symm HE.out.2.1.symm HE.out.2.2.symm, (show Below w.heap.size w w3 from (below_box _ _).trans (hb3.mono (by simp)))⟩
    · have j0 := inB_false hrr
      have HE := Lib.hid (show wpA s a xs r = 0 ∧ wpB s a xs r = 0 ∧ wpC s a xs r = 2 by simp [wpA, wpB, wpC, hok, j0])
      go_enter Try.func29, Try.ntmps29
      go_wp2_with (first
            | (go_at_call 42; (with_reducible refine (l06Ok_below w.heap.size 0 s a A cap xs (w.alloc (.cells #[.string s, .int .i64 a, .slice A xs.length cap] 27)) ((fanBoxed s a A cap xs w).below (Below.refl _ (w.alloc (.cells #[.string s, .int .i64 a, .slice A xs.length cap] 27)))) (HR.out.below (Below.refl _ (w.alloc (.cells #[.string s, .int .i64 a, .slice A xs.length cap] 27)))) hs hl HX.out).mono ?_); rintro e w1 ⟨rfl, hd1⟩; have hb1 := hd1; obtain ⟨hc1, hf1⟩ := bcell hb1; have hz1 : w.heap.size < w1.heap.size := Nat.lt_of_lt_of_le (by first | (simp; done) | (simp; omega)) hb1.size; clear hd1)
            | (go_at_call 60; (with_reducible refine (l03Res_any _ _).mono ?_); rintro e w' ⟨rfl, rfl⟩))
      go_ret3
      exact ⟨ret_3 HE.out.1.symm HE.out.2.1.symm HE.out.2.2.symm, (show Below w.heap.size w w1 from (below_box _ _).trans (hb1.mono (by simp)))⟩
set_option maxHeartbeats 1000000 in
theorem iWorkingPoint_any (s : ByteArray) (a : Int) (A : Option Addr) (cap : Nat) (xs : List (List Int)) (r : Int) (w : World) (hr : RowsR w A xs) (hs : s.size ≤ 1048576) (hl : xs.length ≤ 1048576) (hx : ∀ r ∈ xs, r.length ≤ 1048576) (hcap : xs.length ≤ cap) (hcm : cap ≤ 1048576) :
    Calls Try.prog 30 #[.agg #[.string s, .int .i64 a, .slice A xs.length cap], .int .i64 r] w fun e w' => e = .returned (.tuple #[.int .i64 (wpA s a xs r), .int .i64 (wpB s a xs r), .int .i64 (wpC s a xs r)]) ∧ Below w.heap.size w w' := by
  have HR := Lib.hid (hr.below (below_box w (.cells #[.string s, .int .i64 a, .slice A xs.length cap] 27)))
  have HX := Lib.hid hx
  clear hr hx
  cases hok : fanOk s a xs
  · have HE := Lib.hid (show wpA s a xs r = 0 ∧ wpB s a xs r = 0 ∧ wpC s a xs r = 1 by simp [wpA, wpB, wpC, hok])
    go_enter Try.func30, Try.ntmps30
    go_wp2_with (first
          | (go_at_call 16; (with_reducible refine (iValidFan_any s a A cap xs (w.alloc (.cells #[.string s, .int .i64 a, .slice A xs.length cap] 27)) (HR.out.below (Below.refl _ (w.alloc (.cells #[.string s, .int .i64 a, .slice A xs.length cap] 27)))) hs hl HX.out).mono ?_); rintro e w1 ⟨rfl, hd1⟩; have hb1 := hd1; obtain ⟨hc1, hf1⟩ := bcell hb1; have hz1 : w.heap.size < w1.heap.size := Nat.lt_of_lt_of_le (by first | (simp; done) | (simp; omega)) hb1.size; clear hd1))
    go_ret3
    exact ⟨ret_3 HE.out.1.symm HE.out.2.1.symm HE.out.2.2.symm, (show Below w.heap.size w w1 from (below_box _ _).trans (hb1.mono (by simp)))⟩
  · have HOK := Lib.hid (fanOk_curve hok)
    by_cases hrr : 1 ≤ r ∧ r ≤ 1000000
    · have j0 := inB_true hrr.1 hrr.2
      have HE := Lib.hid (show wpA s a xs r = wpQ xs r ∧ wpB s a xs r = prR xs (wpQ xs r) ∧ wpC s a xs r = 0 by simp [wpA, wpB, wpC, hok, j0])
      have hq64 : I64 (wpQ xs r) := by have := wpQ_bd HOK.out hrr.1; unfold I64; omega
      go_enter Try.func30, Try.ntmps30
      go_wp2_with (first
            | (go_at_call 16; (with_reducible refine (iValidFan_any s a A cap xs (w.alloc (.cells #[.string s, .int .i64 a, .slice A xs.length cap] 27)) (HR.out.below (Below.refl _ (w.alloc (.cells #[.string s, .int .i64 a, .slice A xs.length cap] 27)))) hs hl HX.out).mono ?_); rintro e w1 ⟨rfl, hd1⟩; have hb1 := hd1; obtain ⟨hc1, hf1⟩ := bcell hb1; have hz1 : w.heap.size < w1.heap.size := Nat.lt_of_lt_of_le (by first | (simp; done) | (simp; omega)) hb1.size; clear hd1)
            | (go_at_call 62; (with_reducible refine (isResistance_any _ w1).mono ?_); rintro e w2 ⟨rfl, hd2⟩; have hb2 := hb1.trans (hd2.mono hb1.size); obtain ⟨hc2, hf2⟩ := bcell hb2; have hz2 : w.heap.size < w2.heap.size := Nat.lt_of_lt_of_le (by first | (simp; done) | (simp; omega)) hb2.size; clear hd2)
            | (go_at_call 63; (with_reducible refine (workingPoint_any s a A cap xs r w2 hrr HOK.out (HR.out.below hb2) hl hcap hcm).mono ?_); rintro e w3 ⟨rfl, hd3⟩; have hb3 := hb2.trans (hd3.mono hb2.size); obtain ⟨hc3, hf3⟩ := bcell hb3; have hz3 : w.heap.size < w3.heap.size := Nat.lt_of_lt_of_le (by first | (simp; done) | (simp; omega)) hb3.size; clear hd3))
      have g0 : (w3.alloc (.cells #[.int .i64 (wpQ xs r), .int .i64 (prR xs (wpQ xs r))] 60)).cell? ⟨w3.heap.size, 0, none⟩ = some (.int .i64 (wpQ xs r)) := by simp
      have g1 : (w3.alloc (.cells #[.int .i64 (wpQ xs r), .int .i64 (prR xs (wpQ xs r))] 60)).cell? ⟨w3.heap.size, 1, none⟩ = some (.int .i64 (prR xs (wpQ xs r))) := by simp
      refine wp_region_held (S := fun w' => w'.cell? ⟨w3.heap.size, 0, none⟩ = some (.int .i64 (wpQ xs r)) ∧ w'.cell? ⟨w3.heap.size, 1, none⟩ = some (.int .i64 (prR xs (wpQ xs r))) ∧ Below (w3.alloc (.cells #[.int .i64 (wpQ xs r), .int .i64 (prR xs (wpQ xs r))] 60)).heap.size (w3.alloc (.cells #[.int .i64 (wpQ xs r), .int .i64 (prR xs (wpQ xs r))] 60)) w') (by kernel_rfl) ?_
      try (change wpAnyH _ _ _ _ _ _ _ _ (World.drew _))
      have hS0 := (show (w3.alloc (.cells #[.int .i64 (wpQ xs r), .int .i64 (prR xs (wpQ xs r))] 60)).drew.cell? ⟨w3.heap.size, 0, none⟩ = some (.int .i64 (wpQ xs r)) ∧ (w3.alloc (.cells #[.int .i64 (wpQ xs r), .int .i64 (prR xs (wpQ xs r))] 60)).drew.cell? ⟨w3.heap.size, 1, none⟩ = some (.int .i64 (prR xs (wpQ xs r))) ∧ Below (w3.alloc (.cells #[.int .i64 (wpQ xs r), .int .i64 (prR xs (wpQ xs r))] 60)).heap.size (w3.alloc (.cells #[.int .i64 (wpQ xs r), .int .i64 (prR xs (wpQ xs r))] 60)) (w3.alloc (.cells #[.int .i64 (wpQ xs r), .int .i64 (prR xs (wpQ xs r))] 60)).drew from ⟨g0, g1, Below.drew (Below.refl _ _)⟩)
      refine gTake 0 (v := ?_) rfl (by kernel_rfl) (by kernel_rfl) (by kernel_rfl) (fun _ _ _ h => h) (by kernel_rfl) ?_ hS0 ?_
      rotate_left
      · (intro W hW; clear hW; go_simp; try with_reducible rfl)
      refine gTake 1 (v := ?_) rfl (by kernel_rfl) (by kernel_rfl) (by kernel_rfl) (fun _ _ _ h => h) (by kernel_rfl) ?_ hS0 ?_
      rotate_left
      · (intro W hW; have q0 := hW.1; have q1 := hW.2.1; clear hW; go_simp; try with_reducible rfl)
      refine gTake 2 (v := ?_) rfl (by kernel_rfl) (by kernel_rfl) (by kernel_rfl) (fun _ _ _ h => h) (by kernel_rfl) ?_ hS0 ?_
      rotate_left
      · (intro W hW; clear hW; go_simp; try with_reducible rfl)
      refine gTake 3 (v := ?_) rfl (by kernel_rfl) (by kernel_rfl) (by kernel_rfl) (fun _ _ _ h => h) (by kernel_rfl) ?_ hS0 ?_
      rotate_left
      · (intro W hW; have q0 := hW.1; have q1 := hW.2.1; clear hW; go_simp; try with_reducible rfl)
      refine gTake 4 (v := ?_) rfl (by kernel_rfl) (by kernel_rfl) (by kernel_rfl) (fun _ _ _ h => h) (by kernel_rfl) ?_ hS0 ?_
      rotate_left
      · (intro W hW; clear hW; go_simp; try with_reducible rfl)
      refine gTake 5 (v := ?_) rfl (by kernel_rfl) (by kernel_rfl) (by kernel_rfl) (fun _ _ _ h => h) (by kernel_rfl) ?_ hS0 ?_
      rotate_left
      · (intro W hW; clear hW; go_simp; try with_reducible rfl)
      refine gTake 6 (v := ?_) rfl (by kernel_rfl) (by kernel_rfl) (by kernel_rfl) (fun _ _ _ h => h) (by kernel_rfl) ?_ hS0 ?_
      rotate_left
      · (intro W hW; clear hW; go_simp; try with_reducible rfl)
      refine wpAnyH_done (by kernel_rfl) ?_ _
      go_simp
      go_wp2
      go_ret3
      exact ⟨ret_3 HE.out.1.symm HE.out.2.1.symm HE.out.2.2.symm, Below.drew ((below_box _ _).trans ((hb3.mono (by simp)).alloc (by have := hb3.size; simp at this; omega) _))⟩
    · have j0 := inB_false hrr
      have HE := Lib.hid (show wpA s a xs r = 0 ∧ wpB s a xs r = 0 ∧ wpC s a xs r = 2 by simp [wpA, wpB, wpC, hok, j0])
      go_enter Try.func30, Try.ntmps30
      go_wp2_with (first
            | (go_at_call 16; (with_reducible refine (iValidFan_any s a A cap xs (w.alloc (.cells #[.string s, .int .i64 a, .slice A xs.length cap] 27)) (HR.out.below (Below.refl _ (w.alloc (.cells #[.string s, .int .i64 a, .slice A xs.length cap] 27)))) hs hl HX.out).mono ?_); rintro e w1 ⟨rfl, hd1⟩; have hb1 := hd1; obtain ⟨hc1, hf1⟩ := bcell hb1; have hz1 : w.heap.size < w1.heap.size := Nat.lt_of_lt_of_le (by first | (simp; done) | (simp; omega)) hb1.size; clear hd1)
            | (go_at_call 62; (with_reducible refine (isResistance_any _ w1).mono ?_); rintro e w2 ⟨rfl, hd2⟩; have hb2 := hb1.trans (hd2.mono hb1.size); obtain ⟨hc2, hf2⟩ := bcell hb2; have hz2 : w.heap.size < w2.heap.size := Nat.lt_of_lt_of_le (by first | (simp; done) | (simp; omega)) hb2.size; clear hd2))
      go_ret3
      exact ⟨ret_3 HE.out.1.symm HE.out.2.1.symm HE.out.2.2.symm, (show Below w.heap.size w w2 from (below_box _ _).trans (hb2.mono (by simp)))⟩
end Go.Proofs.Ytcnpddmghjjhjaa
