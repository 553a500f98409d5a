/-
  PROVED: for every input the function laws.FnExactMeshesOf returns true and leaves its arguments as they were. Conditions: none.
-/
import Derived.Test.YtjooebiiceillaaRows
import Derived.Test.YtjooebiiceillaaUz
import Derived.Test.YtjooebiiceillaaQl
import Derived.WalkKit
import Derived.ProofKit
import Derived.OpenShut
import Derived.ShutString
import Derived.ChangeOld
import Derived.Below
import Derived.Carry
import Derived.Lib.SmallJoins
import Derived.ChangeArms
namespace Go.Proofs.Ytjooebiiceillaa.fnExactMeshesOf
open Go.ChangeShapes Go.WideShapes Go.ChangeAt Go.RowKit
open Go.ChangeMaps (open_string shut_string)
open Go.Joins Go.Deep
set_option linter.unusedVariables false
set_option linter.unusedSimpArgs false

theorem own : ownKnob Try.prog.godebug = none := by kernel_rfl
theorem laidOut : laidOutB Try.prog = true := by kernel_rfl
section
variable {H : Type} {enc : TypeId × Value → H} {P : Program} {w : World} {base : Nat} {spare : Nat → Bool} {held : Bool}
theorem open_fields {r : Reach} {b0 : Nat} {t : TypeId} {fs : Array Field} {v : Value} {d : DataW H} {p : List MemPlace} (hs : P.underlying t = some (.struct fs)) (hone : oneCellFields P fs = true) (hC : P.cellsOf t = fs.size)
    (hv : Value.okWide P w r b0 t v) (h : DataW.Trod enc P w base spare held t v d p) :
    ∃ l : List Value, v = .agg ⟨l⟩ ∧ l.length = fs.size ∧ ∀ (j : Nat) (f : Field), fs[j]? = some f → ∃ (c : Value) (n : Nat) (y : DataW H × List MemPlace), l[j]? = some c ∧ DataW.trod enc P w base spare held n f.type [c] = some y := by
  obtain ⟨cs, rfl, hsz⟩ := okWide_struct hs hv
  obtain ⟨l⟩ := cs
  obtain ⟨fuel, hf⟩ := h
  obtain ⟨xs, n, _, _, _, hlen, hg⟩ := DataW.trod_struct hs hf
  have hl : l.length = fs.size := by simpa using hsz.trans hC
  refine ⟨l, rfl, hl, fun j f hj => ?_⟩
  obtain ⟨o, k⟩ := hone_of hone j f hj
  have hjf : j < fs.size := (Array.getElem?_eq_some_iff.1 hj).1
  have hjl : j < l.length := by omega
  have h1 := hg j f hj
  rw [o, k] at h1
  have e : (l.drop j).take 1 = [l[j]] := by
    rw [List.drop_eq_getElem_cons hjl]; rfl
  replace h1 : DataW.trod enc P w base spare held n f.type ((l.drop j).take 1) = xs[j]? := by simpa [Value.cells] using h1
  rw [e] at h1
  have hx : xs[j]? = some (xs[j]'(by omega)) := List.getElem?_eq_getElem (by omega)
  exact ⟨l[j], _, _, List.getElem?_eq_getElem hjl, h1.trans hx⟩
end

theorem walk (w : World) (a0_0 : Int) (w0_0 : (Lit.int .i64 a0_0).wf = true) (A0_1 : Option Addr) (C0_1 : Nat) (x0_1 : List Aw) (l0_1 : x0_1.length ≤ maxLen) (r0_1 : AwR w A0_1 x0_1) (f0_1 : ∀ a ∈ x0_1, a.fits) :
    Calls Try.prog 12 #[.agg #[.int .i64 a0_0, .slice A0_1 x0_1.length C0_1]] w fun e w' => e = .returned (.bool true) ∧ Below w.heap.size w w' := by
  have RW := Lib.hid r0_1
  have hB0 : Below w.heap.size w (w.alloc (.cells #[.int .i64 a0_0, .slice A0_1 x0_1.length C0_1] 29)) := (by repeat (first | (with_reducible exact Below.refl _ _) | (with_reducible refine below_drewN' ?_ _) | (with_reducible refine Below.alloc ?_ (by simp <;> omega) _) | (with_reducible refine Below.setCell ?_ (by simp) _)))
  have R0 := Lib.hid (r0_1.below hB0)
  have S0 := Lib.hid (fun a ha => (f0_1 a ha).1)
  have HLL0 := Lib.hid l0_1
  clear hB0 r0_1
  by_cases hs : szL 1048576 x0_1 < 0
  · go_enter Try.func12, Try.ntmps12
    go_wp2_with fail
    (with_reducible refine (szMine_any a0_0 A0_1 C0_1 x0_1 (1048576) _ (R0.out.below (Below.refl _ (w.alloc (.cells #[.int .i64 a0_0, .slice A0_1 x0_1.length C0_1] 29)))) S0.out HLL0.out (by omega)).mono ?_)
    rintro e w1 ⟨rfl, hd1⟩
    have hb1 := hd1
    obtain ⟨hc1, hf1⟩ := bcell hb1
    have hz1 : w.heap.size < w1.heap.size := Nat.lt_of_lt_of_le (by first | (simp; done) | (simp; omega)) hb1.size
    clear hd1
    go_wp2
    go_ret
    exact ⟨rfl, (show Below w.heap.size w w1 from (below_box _ _).trans (hb1.mono (by simp)))⟩
  · have HL0 := Lib.hid (show x0_1.length ≤ 1048576 from by have := (szL_bd (by omega) (Int.not_lt.1 hs)).1; omega)
    have HLN := Lib.hid (msR_LEN a0_0 x0_1)
    have HLR := Lib.hid (msR_ROW a0_0 x0_1)
    have HLT := Lib.hid (msR_TOT a0_0 x0_1)
    have ca0_0 : (w.alloc (.cells #[.int .i64 a0_0, .slice A0_1 x0_1.length C0_1] 29)).cell? ⟨w.heap.size, 0, none⟩ = some (.int .i64 a0_0) := by simp
    have ca1_0 : (w.alloc (.cells #[.int .i64 a0_0, .slice A0_1 x0_1.length C0_1] 29)).cell? ⟨w.heap.size, 1, none⟩ = some (.slice A0_1 x0_1.length C0_1) := by simp
    have hzA : w.heap.size < (w.alloc (.cells #[.int .i64 a0_0, .slice A0_1 x0_1.length C0_1] 29)).heap.size := by simp
    have HB0 := Lib.hid (below_box w (.cells #[.int .i64 a0_0, .slice A0_1 x0_1.length C0_1] 29))
    clear R0
    go_enter Try.func12, Try.ntmps12
    go_wp2_with fail
    generalize w.alloc (.cells #[.int .i64 a0_0, .slice A0_1 x0_1.length C0_1] 29) = W0 at *
    go_wp2_with fail
    (with_reducible refine (szMine_any a0_0 A0_1 C0_1 x0_1 (1048576) _ (RW.out.below HB0.out) S0.out HLL0.out (by omega)).mono ?_)
    rintro e W1 ⟨rfl, hd⟩
    have B1 := Lib.hid (show Below W0.heap.size W0 W1 from hd)
    have HB1 := Lib.hid (HB0.out.trans (B1.out.mono HB0.out.size))
    have hs1 : W0.heap.size ≤ W1.heap.size := B1.out.size
    have ca0_1 := cellK1 ca0_0 B1.out
    have ca1_1 := cellK1 ca1_0 B1.out
    clear ca0_0 ca1_0
    try clear hd
    go_wp2_with fail
    (with_reducible refine (toMine_any a0_0 A0_1 C0_1 x0_1 _ (RW.out.below HB1.out) HL0.out).mono ?_)
    rintro e W2 ⟨gs, rfl, hk, hggs, hd⟩
    have B2 := Lib.hid (show Below W1.heap.size W1 W2 from hd)
    have HB2 := Lib.hid (HB1.out.trans (B2.out.mono HB1.out.size))
    have hs2 : W1.heap.size ≤ W2.heap.size := B2.out.size
    have ca0_2 := cellK1 ca0_1 B2.out
    have ca1_2 := cellK1 ca1_1 B2.out
    clear ca0_1 ca1_1
    have Kgs_2 := Lib.hid hk
    clear hk
    try clear hd
    go_wp2_with fail
    (with_reducible refine (sMeshesOf_any a0_0  (some ⟨gs, 0, none⟩) x0_1.length x0_1 _ Kgs_2.out.awr S0.out HL0.out).mono ?_)
    rintro e W3 ⟨vw, rfl, ho, hd⟩
    have B3 := Lib.hid (show Below W2.heap.size W2 W3 from hd)
    have HB3 := Lib.hid (HB2.out.trans (B3.out.mono HB2.out.size))
    have hs3 : W2.heap.size ≤ W3.heap.size := B3.out.size
    have ca0_3 := cellK1 ca0_2 B3.out
    have ca1_3 := cellK1 ca1_2 B3.out
    clear ca0_2 ca1_2
    have Kgs_3 := Lib.hid (Kgs_2.out.below B3.out Kgs_2.out.lt)
    obtain ⟨Aw, cw, rfl⟩ := ho.form
    have Ow_3 := Lib.hid ho
    clear ho
    try clear hd
    have HC3 := Lib.hid (Below.refl W3.heap.size W3)
    have OwM := Ow_3
    go_wp2_with fail
    (with_reducible refine (toMine_any a0_0 A0_1 C0_1 x0_1 _ (RW.out.below HB3.out) HL0.out).mono ?_)
    rintro e W4 ⟨gx, rfl, hk, hggx, hd⟩
    have B4 := Lib.hid (show Below W3.heap.size W3 W4 from hd)
    have HB4 := Lib.hid (HB3.out.trans (B4.out.mono HB3.out.size))
    have hs4 : W3.heap.size ≤ W4.heap.size := B4.out.size
    have HC4 := Lib.hid (HC3.out.trans (B4.out.mono HC3.out.size))
    have ca0_4 := cellK1 ca0_3 B4.out
    have ca1_4 := cellK1 ca1_3 B4.out
    clear ca0_3 ca1_3
    have Ow_4 := Lib.hid (Ow_3.out.below B4.out)
    have Kgx_4 := Lib.hid hk
    clear hk
    try clear hd
    have cx0_5 : (W4.alloc (.cells #[.int .i64 a0_0, .slice (some ⟨gx, 0, none⟩) x0_1.length x0_1.length] 36)).cell? ⟨W4.heap.size, 0, none⟩ = some (.int .i64 a0_0) := by simp
    have cx1_5 : (W4.alloc (.cells #[.int .i64 a0_0, .slice (some ⟨gx, 0, none⟩) x0_1.length x0_1.length] 36)).cell? ⟨W4.heap.size, 1, none⟩ = some (.slice (some ⟨gx, 0, none⟩) x0_1.length x0_1.length) := by simp
    have B5 := Lib.hid (below_box W4 (.cells #[.int .i64 a0_0, .slice (some ⟨gx, 0, none⟩) x0_1.length x0_1.length] 36))
    have HB5 := Lib.hid (HB4.out.trans (B5.out.mono HB4.out.size))
    have hs5 : W4.heap.size < (W4.alloc (.cells #[.int .i64 a0_0, .slice (some ⟨gx, 0, none⟩) x0_1.length x0_1.length] 36)).heap.size := by simp
    have HC5 := Lib.hid (HC4.out.trans (B5.out.mono HC4.out.size))
    have ca0_5 := cellK1 ca0_4 B5.out
    have ca1_5 := cellK1 ca1_4 B5.out
    clear ca0_4 ca1_4
    have Ow_5 := Lib.hid (Ow_4.out.below B5.out)
    have Kgx_5 := Lib.hid (Kgx_4.out.below B5.out Kgx_4.out.lt)
    go_wp2_with fail
    generalize W4.alloc (.cells #[.int .i64 a0_0, .slice (some ⟨gx, 0, none⟩) x0_1.length x0_1.length] 36) = W5 at *
    go_wp2_with fail
    (with_reducible refine (iMeshesOf_any a0_0  (some ⟨gx, 0, none⟩) x0_1.length x0_1 _ Kgx_5.out.awr S0.out HL0.out).mono ?_)
    rintro e W6 ⟨vg, rfl, ho, hd⟩
    have B6 := Lib.hid (show Below W5.heap.size W5 W6 from hd)
    have HB6 := Lib.hid (HB5.out.trans (B6.out.mono HB5.out.size))
    have hs6 : W5.heap.size ≤ W6.heap.size := B6.out.size
    have HC6 := Lib.hid (HC5.out.trans (B6.out.mono HC5.out.size))
    have ca0_6 := cellK1 ca0_5 B6.out
    have ca1_6 := cellK1 ca1_5 B6.out
    have cx0_6 := cellK1 cx0_5 B6.out
    have cx1_6 := cellK1 cx1_5 B6.out
    clear ca0_5 ca1_5 cx0_5 cx1_5
    have Ow_6 := Lib.hid (Ow_5.out.below B6.out)
    have Kgx_6 := Lib.hid (Kgx_5.out.below B6.out Kgx_5.out.lt)
    obtain ⟨Ag, cg, rfl⟩ := ho.form
    have Og_6 := Lib.hid ho
    clear ho
    try clear hd
    go_wp2_with fail
    (with_reducible refine (eqInt64SS_w Ag Aw cg cw (msR a0_0 x0_1) _ Og_6.out.rows Ow_6.out.rows (by have := HLN.out; omega) HLR.out).mono ?_)
    rintro e W7 ⟨rfl, hd⟩
    have B7 := Lib.hid (show Below W6.heap.size W6 W7 from hd)
    have HB7 := Lib.hid (HB6.out.trans (B7.out.mono HB6.out.size))
    have hs7 : W6.heap.size ≤ W7.heap.size := B7.out.size
    have HC7 := Lib.hid (HC6.out.trans (B7.out.mono HC6.out.size))
    have ca0_7 := cellK1 ca0_6 B7.out
    have ca1_7 := cellK1 ca1_6 B7.out
    have cx0_7 := cellK1 cx0_6 B7.out
    have cx1_7 := cellK1 cx1_6 B7.out
    clear ca0_6 ca1_6 cx0_6 cx1_6
    have Ow_7 := Lib.hid (Ow_6.out.below B7.out)
    have Og_7 := Lib.hid (Og_6.out.below B7.out)
    have Kgx_7 := Lib.hid (Kgx_6.out.below B7.out Kgx_6.out.lt)
    try clear hd
    go_wp2_with fail
    refine wp_region_held (S := fun w' => ((w'.cell? ⟨W4.heap.size, 0, none⟩ = some (.int .i64 a0_0) ∧ w'.cell? ⟨W4.heap.size, 1, none⟩ = some (.slice (some ⟨gx, 0, none⟩) x0_1.length x0_1.length)) ∧ (w'.cell? ⟨w.heap.size, 0, none⟩ = some (.int .i64 a0_0) ∧ w'.cell? ⟨w.heap.size, 1, none⟩ = some (.slice A0_1 x0_1.length C0_1))) ∧ Below W7.heap.size W7 w') (by kernel_rfl) ?_
    try (change wpAnyH _ _ _ _ _ _ _ _ (World.drew _))
    have hS0 := (show ((W7.drew.cell? ⟨W4.heap.size, 0, none⟩ = some (.int .i64 a0_0) ∧ W7.drew.cell? ⟨W4.heap.size, 1, none⟩ = some (.slice (some ⟨gx, 0, none⟩) x0_1.length x0_1.length)) ∧ (W7.drew.cell? ⟨w.heap.size, 0, none⟩ = some (.int .i64 a0_0) ∧ W7.drew.cell? ⟨w.heap.size, 1, none⟩ = some (.slice A0_1 x0_1.length C0_1))) ∧ Below W7.heap.size W7 W7.drew from ⟨⟨⟨cx0_7, cx1_7⟩, ca0_7, ca1_7⟩, Below.drew (Below.refl _ _)⟩)
    refine gTake 0 (v := ?_) rfl (by kernel_rfl) (by kernel_rfl) (by kernel_rfl) (fun _ _ _ h => h) (by kernel_rfl) ?_ hS0 ?_
    rotate_left
    · (intro W hW; have q0 := hW.1.1.1; have q1 := hW.1.1.2; have q2 := hW.1.2.1; have q3 := hW.1.2.2; clear hW; go_simp; try with_reducible rfl)
    refine gTake 1 (v := ?_) rfl (by kernel_rfl) (by kernel_rfl) (by kernel_rfl) (fun _ _ _ h => h) (by kernel_rfl) ?_ hS0 ?_
    rotate_left
    · (intro W hW; have q0 := hW.1.1.1; have q1 := hW.1.1.2; have q2 := hW.1.2.1; have q3 := hW.1.2.2; clear hW; go_simp; try with_reducible rfl)
    refine gOne 2 rfl (by kernel_rfl) (by kernel_rfl) (fun K hK => ?_)
    go_simp
    go_at_call 23
    (with_reducible refine (toMine_any a0_0 A0_1 C0_1 x0_1 _ (RW.out.below (HB7.out.trans (hS0.2.mono HB7.out.size))) HL0.out).mono ?_)
    rintro e W8 ⟨gy, rfl, hk, hgy, hd⟩
    have KY := Lib.hid hk
    clear hk hgy
    try go_simp
    have hS1 := (show ((W8.cell? ⟨W4.heap.size, 0, none⟩ = some (.int .i64 a0_0) ∧ W8.cell? ⟨W4.heap.size, 1, none⟩ = some (.slice (some ⟨gx, 0, none⟩) x0_1.length x0_1.length)) ∧ (W8.cell? ⟨w.heap.size, 0, none⟩ = some (.int .i64 a0_0) ∧ W8.cell? ⟨w.heap.size, 1, none⟩ = some (.slice A0_1 x0_1.length C0_1))) ∧ Below W7.heap.size W7 W8 from ⟨⟨⟨cellK1 hS0.1.1.1 hd, cellK1 hS0.1.1.2 hd⟩, cellK1 hS0.1.2.1 hd, cellK1 hS0.1.2.2 hd⟩, hS0.2.trans (hd.mono hS0.2.size)⟩)
    refine hK _ _ hS1 ?_
    clear hK K
    refine gOne 3 rfl (by kernel_rfl) (by kernel_rfl) (fun K hK => ?_)
    go_simp
    go_at_call 27
    (with_reducible refine (eqMine_same a0_0 (some ⟨gx, 0, none⟩) (some ⟨gy, 0, none⟩) x0_1.length x0_1.length x0_1 _ (Kgx_7.out.awr.below hS1.2) KY.out.awr HL0.out).mono ?_)
    rintro e W9 ⟨rfl, hd2⟩
    try go_simp
    have hS2 := (show ((W9.cell? ⟨W4.heap.size, 0, none⟩ = some (.int .i64 a0_0) ∧ W9.cell? ⟨W4.heap.size, 1, none⟩ = some (.slice (some ⟨gx, 0, none⟩) x0_1.length x0_1.length)) ∧ (W9.cell? ⟨w.heap.size, 0, none⟩ = some (.int .i64 a0_0) ∧ W9.cell? ⟨w.heap.size, 1, none⟩ = some (.slice A0_1 x0_1.length C0_1))) ∧ Below W7.heap.size W7 W9 from ⟨⟨⟨cellK1 hS1.1.1.1 hd2, cellK1 hS1.1.1.2 hd2⟩, cellK1 hS1.1.2.1 hd2, cellK1 hS1.1.2.2 hd2⟩, hS1.2.trans (hd2.mono hS1.2.size)⟩)
    refine hK _ _ hS2 ?_
    clear hK K
    refine gTake 4 (v := ?_) rfl (by kernel_rfl) (by kernel_rfl) (by kernel_rfl) (fun _ _ _ h => h) (by kernel_rfl) ?_ hS2 ?_
    rotate_left
    · (intro W hW; clear hW; go_simp; try with_reducible rfl)
    refine wpAnyH_done (by kernel_rfl) ?_ _
    go_simp
    have B9 := Lib.hid (show Below W7.heap.size W7 W9 from hS2.2)
    have HB9 := Lib.hid (HB7.out.trans (B9.out.mono HB7.out.size))
    have hs9 : W7.heap.size ≤ W9.heap.size := B9.out.size
    have HC9 := Lib.hid (HC7.out.trans (B9.out.mono HC7.out.size))
    have ca0_9 := cellK1 ca0_7 B9.out
    have ca1_9 := cellK1 ca1_7 B9.out
    have cx0_9 := cellK1 cx0_7 B9.out
    have cx1_9 := cellK1 cx1_7 B9.out
    clear ca0_7 ca1_7 cx0_7 cx1_7
    have Ow_9 := Lib.hid (Ow_7.out.below B9.out)
    have Og_9 := Lib.hid (Og_7.out.below B9.out)
    have Kgx_9 := Lib.hid (Kgx_7.out.below B9.out Kgx_7.out.lt)
    clear hS0 hS1 hS2 hd hd2 KY
    go_wp2_with fail
    (with_reducible refine (markMine_any a0_0 gx x0_1.length 1 (awsV x0_1) _ Kgx_9.out (awsV_len x0_1) HL0.out (by omega)).mono ?_)
    rintro e W10 ⟨rfl, hg⟩
    have G10 := Lib.hid hg
    clear hg
    have hs10 : W9.heap.size ≤ W10.heap.size := G10.out.size
    have HB10 := Lib.hid (Below.grown HB9.out G10.out HB9.out.size (fun k hk => by injection hk with hk; omega))
    have hgl := blks_lt Kgx_4.out
    have ca0_10 := G10.out.cell ca0_9 (by intro h; injection h with h; simp only at h; omega)
    have ca1_10 := G10.out.cell ca1_9 (by intro h; injection h with h; simp only at h; omega)
    have cx0_10 := G10.out.cell cx0_9 (by intro h; injection h with h; simp only at h; omega)
    have cx1_10 := G10.out.cell cx1_9 (by intro h; injection h with h; simp only at h; omega)
    clear ca0_9 ca1_9 cx0_9 cx1_9
    have HC10 := Lib.hid (HC9.out.grown G10.out HC9.out.size (fun k hk => by injection hk with hk; omega))
    have Ow_10 := Lib.hid (OwM.out.below HC10.out)
    have Og_10 := Lib.hid (Og_9.out.far_hi G10.out (by omega))
    go_wp2_with fail
    (with_reducible refine (eqInt64SS_w Ag Aw cg cw (msR a0_0 x0_1) _ Og_10.out.rows Ow_10.out.rows (by have := HLN.out; omega) HLR.out).mono ?_)
    rintro e W11 ⟨rfl, hd⟩
    have B11 := Lib.hid (show Below W10.heap.size W10 W11 from hd)
    have HB11 := Lib.hid (HB10.out.trans (B11.out.mono HB10.out.size))
    have hs11 : W10.heap.size ≤ W11.heap.size := B11.out.size
    have HC11 := Lib.hid (HC10.out.trans (B11.out.mono HC10.out.size))
    have ca0_11 := cellK1 ca0_10 B11.out
    have ca1_11 := cellK1 ca1_10 B11.out
    have cx0_11 := cellK1 cx0_10 B11.out
    have cx1_11 := cellK1 cx1_10 B11.out
    clear ca0_10 ca1_10 cx0_10 cx1_10
    have Ow_11 := Lib.hid (Ow_10.out.below B11.out)
    have Og_11 := Lib.hid (Og_10.out.below B11.out)
    try clear hd
    go_wp2_with fail
    have hbg : W5.heap.size ≤ W11.heap.size := by omega
    (with_reducible refine (markInt64SS_any W5.heap.size (.slice Ag (msR a0_0 x0_1).length cg) (msR a0_0 x0_1) 1 _ Og_11.out hbg (by have := HLN.out; omega) (by omega) HLT.out).mono ?_)
    rintro e W12 ⟨rfl, ho, hg⟩
    have G12 := Lib.hid hg
    have Og_12 := Lib.hid ho
    clear ho hg
    have hs12 : W11.heap.size ≤ W12.heap.size := G12.out.size
    have HB12 := Lib.hid (HB11.out.trans (G12.out.mono (by omega)))
    have ca0_12 := (G12.out.cell (p := ⟨w.heap.size, 0, none⟩) (by show w.heap.size < W5.heap.size; omega)).trans ca0_11
    have ca1_12 := (G12.out.cell (p := ⟨w.heap.size, 1, none⟩) (by show w.heap.size < W5.heap.size; omega)).trans ca1_11
    have cx0_12 := (G12.out.cell (p := ⟨W4.heap.size, 0, none⟩) (by show W4.heap.size < W5.heap.size; omega)).trans cx0_11
    have cx1_12 := (G12.out.cell (p := ⟨W4.heap.size, 1, none⟩) (by show W4.heap.size < W5.heap.size; omega)).trans cx1_11
    clear ca0_11 ca1_11 cx0_11 cx1_11
    have HC12 := Lib.hid (HC11.out.trans (G12.out.mono (by omega)))
    have Ow_12 := Lib.hid (OwM.out.below HC12.out)
    go_wp2_with fail
    (with_reducible refine (heldInt64SS_any W5.heap.size (.slice Ag (msR a0_0 x0_1).length cg) (msR a0_0 x0_1) 1 _ Og_12.out (by have := HLN.out; omega) (by omega) HLT.out).mono ?_)
    rintro e w' ⟨rfl, rfl⟩
    have hm0 : ¬ (1 + (totS (msR a0_0 x0_1) (msR a0_0 x0_1).length : Int) < 0) := by omega
    go_wp2_with fail
    (with_reducible refine (toMine_any a0_0 A0_1 C0_1 x0_1 _ (RW.out.below HB12.out) HL0.out).mono ?_)
    rintro e W13 ⟨gh, rfl, hk, hggh, hd⟩
    have B13 := Lib.hid (show Below W12.heap.size W12 W13 from hd)
    have HB13 := Lib.hid (HB12.out.trans (B13.out.mono HB12.out.size))
    have hs13 : W12.heap.size ≤ W13.heap.size := B13.out.size
    have HC13 := Lib.hid (HC12.out.trans (B13.out.mono HC12.out.size))
    have ca0_13 := cellK1 ca0_12 B13.out
    have ca1_13 := cellK1 ca1_12 B13.out
    have cx0_13 := cellK1 cx0_12 B13.out
    have cx1_13 := cellK1 cx1_12 B13.out
    clear ca0_12 ca1_12 cx0_12 cx1_12
    have Ow_13 := Lib.hid (Ow_12.out.below B13.out)
    have Og_13 := Lib.hid (Og_12.out.below B13.out)
    have Kgh_13 := Lib.hid hk
    clear hk
    try clear hd
    go_wp2_with fail
    (with_reducible refine (iMeshesOf_any a0_0  (some ⟨gh, 0, none⟩) x0_1.length x0_1 _ Kgh_13.out.awr S0.out HL0.out).mono ?_)
    rintro e W14 ⟨vh, rfl, ho, hd⟩
    have B14 := Lib.hid (show Below W13.heap.size W13 W14 from hd)
    have HB14 := Lib.hid (HB13.out.trans (B14.out.mono HB13.out.size))
    have hs14 : W13.heap.size ≤ W14.heap.size := B14.out.size
    have HC14 := Lib.hid (HC13.out.trans (B14.out.mono HC13.out.size))
    have ca0_14 := cellK1 ca0_13 B14.out
    have ca1_14 := cellK1 ca1_13 B14.out
    have cx0_14 := cellK1 cx0_13 B14.out
    have cx1_14 := cellK1 cx1_13 B14.out
    clear ca0_13 ca1_13 cx0_13 cx1_13
    have Ow_14 := Lib.hid (Ow_13.out.below B14.out)
    have Og_14 := Lib.hid (Og_13.out.below B14.out)
    have Kgh_14 := Lib.hid (Kgh_13.out.below B14.out Kgh_13.out.lt)
    obtain ⟨Ah, ch, rfl⟩ := ho.form
    have Oh_14 := Lib.hid ho
    clear ho
    try clear hd
    go_wp2_with fail
    (with_reducible refine (eqInt64SS_w Ah Aw ch cw (msR a0_0 x0_1) _ Oh_14.out.rows Ow_14.out.rows (by have := HLN.out; omega) HLR.out).mono ?_)
    rintro e W15 ⟨rfl, hd⟩
    have B15 := Lib.hid (show Below W14.heap.size W14 W15 from hd)
    have HB15 := Lib.hid (HB14.out.trans (B15.out.mono HB14.out.size))
    have hs15 : W14.heap.size ≤ W15.heap.size := B15.out.size
    have HC15 := Lib.hid (HC14.out.trans (B15.out.mono HC14.out.size))
    have ca0_15 := cellK1 ca0_14 B15.out
    have ca1_15 := cellK1 ca1_14 B15.out
    have cx0_15 := cellK1 cx0_14 B15.out
    have cx1_15 := cellK1 cx1_14 B15.out
    clear ca0_14 ca1_14 cx0_14 cx1_14
    have Ow_15 := Lib.hid (Ow_14.out.below B15.out)
    have Og_15 := Lib.hid (Og_14.out.below B15.out)
    have Oh_15 := Lib.hid (Oh_14.out.below B15.out)
    have Kgh_15 := Lib.hid (Kgh_14.out.below B15.out Kgh_14.out.lt)
    try clear hd
    go_wp2_with fail
    (with_reducible refine (heldInt64SS_any W5.heap.size (.slice Ag (msR a0_0 x0_1).length cg) (msR a0_0 x0_1) 1 _ Og_15.out (by have := HLN.out; omega) (by omega) HLT.out).mono ?_)
    rintro e w' ⟨rfl, rfl⟩
    go_wp2
    go_ret
    exact ⟨rfl, HB15.out⟩

set_option maxRecDepth 100000 in
theorem contract (H : Type) (enc : TypeId × Value → H) (W : World) (base : Nat) (args : Array Value) (ds gs : List (DataW H)) (before : List MemPlace)
    (hval : ∀ (j : Nat) t v, Try.f12.params[j]? = some t → args[j]? = some v → Value.okWide Try.prog W .any base t v)
    (hW : DataW.Whole enc Try.prog Try.f12.params.toList Rows.fnExactMeshesOfSpec.vars false W args.toList ds gs before) :
    Calls Try.prog 12 args W fun e W' => ∃ v, e = .returned v ∧ Rows.fnExactMeshesOfSpec.post enc Try.prog Try.f12 false true false false W args v W' := by
  have hW' := hW
  obtain ⟨p, q, hA0, hV, rfl, hfz, hnd⟩ := hW
  have hA : DataW.TrodAll enc Try.prog W 0 (fun _ => true) true Try.f12.params.toList args.toList ds p := hA0
  rw [Try.params12] at hA hval
  obtain ⟨v0, vs0, d0, ds0, p0, q0, hargs, rfl, rfl, h0, r0⟩ := trodAll_cons hA
  obtain ⟨rfl, rfl, rfl⟩ := trodAll_nil r0
  obtain rfl : args = #[v0] := by cases args; simp_all
  obtain ⟨rfl, rfl⟩ := trodVars_none hV
  have k0 := h0
  have lt0 : ∀ x ∈ p0, x.block < W.heap.size := by obtain ⟨m, hm⟩ := k0; exact DataW.trod_lt m _ _ _ hm
  obtain ⟨l0, rfl, ll0, hf0⟩ := open_fields Try.underlying29 (by kernel_rfl) (by kernel_rfl) (hval 0 29 v0 rfl rfl) h0
  obtain ⟨c0_0, n0_0, y0_0, e0_0, t0_0⟩ := hf0 0 _ rfl
  obtain ⟨a0_0, q0_0, _, w0_0⟩ := DataW.trod_int Try.underlying2 t0_0
  obtain ⟨c0_1, n0_1, y0_1, e0_1, t0_1⟩ := hf0 1 _ rfl
  obtain ⟨A0_1, C0_1, x0_1, q0_1, l0_1, r0_1, f0_1⟩ := open_aws t0_1
  obtain rfl := List.cons.inj q0_0 |>.1
  obtain rfl := List.cons.inj q0_1 |>.1
  obtain rfl : l0 = [.int .i64 a0_0, .slice A0_1 x0_1.length C0_1] := by
    match l0, ll0, e0_0, e0_1 with
    | [x0, x1], _, z0, z1 => simp at z0 z1; simp [z0, z1]
  clear hA0
  refine (walk W a0_0 w0_0 A0_1 C0_1 x0_1 l0_1 r0_1 f0_1).mono fun e W' ⟨he, bel⟩ => ?_
  subst he
  exact ⟨_, rfl, _, _, _, [], _, [], hW', trodAll_mk1 (shut_bool Try.underlying4 _), (trodAll_cons_mk (Below.trod laidOut (by kernel_rfl) (of_decide_eq_true (by kernel_rfl)) k0 bel lt0) trodAll_mk0), rfl, bel.frame _, fun h => by cases h⟩

set_option maxRecDepth 100000 in
theorem lifted (os : Os) (started : os.Started) (H : Type) (enc : TypeId × Value → H) :
    ReturnsInHanded {} Try.checked os 12 .any (Rows.fnExactMeshesOfSpec.pre6 enc Try.prog Try.f12 Rows.fnExactMeshesOfRow.domain false) (Rows.fnExactMeshesOfSpec.post enc Try.prog Try.f12 false true false false) := by
  refine returnsInHanded_of_change (C := Try.checked) own started (by kernel_rfl) Try.func12
    (ChangeSpec.witness6 (enc := enc) (C := Try.checked) false ⟨#[], #[.agg #[.int .i64 0, .slice none 0 0]], []⟩ 8 (by kernel_rfl) (by kernel_rfl) (by kernel_rfl) (by kernel_rfl)) ?_
  intro W base args ds gs before hval hW hcnd _
  exact contract H enc W base args ds gs before hval hW

theorem proved : Rows.FnExactMeshesOfSaid :=
  OpenClaim.holds_of_wide 12 Try.f12 rfl rfl rfl rfl rfl rfl rfl ⟨rfl, rfl, rfl, rfl, rfl⟩ rfl rfl rfl rfl rfl (by kernel_rfl) Try.func12 (by kernel_rfl)
    (of_decide_eq_true (by kernel_rfl)) (by unfold Func.isWrapper; first | (rw [if_pos (by decide +kernel)]; kernel_rfl) | (rw [if_neg (by decide +kernel)]; exact ⟨rfl, rfl⟩))
    (fun os started H enc _ => lifted os started H enc)
#print axioms proved
end Go.Proofs.Ytjooebiiceillaa.fnExactMeshesOf
