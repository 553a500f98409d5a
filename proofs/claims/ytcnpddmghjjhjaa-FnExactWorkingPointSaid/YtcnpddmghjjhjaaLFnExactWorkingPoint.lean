/-
  PROVED: for every input the function laws.FnExactWorkingPoint returns true and leaves its arguments as they were. Conditions: none.
-/
import Derived.Test.YtcnpddmghjjhjaaRows
import Derived.Test.YtcnpddmghjjhjaaVi
import Derived.WalkKit
import Derived.ProofKit
import Derived.OpenShut
import Derived.ShutString
import Derived.ChangeOld
import Derived.Below
import Derived.Carry
import Derived.Lib.SmallJoins
import Derived.ChangeArms
namespace Go.Proofs.Ytcnpddmghjjhjaa.fnExactWorkingPoint
open Go.ChangeShapes Go.WideShapes Go.ChangeAt Go.RowKit
open Go.ChangeMaps (open_string shut_string)
open Go.Joins Go.Deep
set_option linter.unusedVariables false
set_option linter.unusedSimpArgs false

theorem own : ownKnob Try.prog.godebug = none := by kernel_rfl
theorem laidOut : laidOutB Try.prog = true := by kernel_rfl
section
variable {H : Type} {enc : TypeId × Value → H} {P : Program} {w : World} {base : Nat} {spare : Nat → Bool} {held : Bool}
theorem open_fields {r : Reach} {b0 : Nat} {t : TypeId} {fs : Array Field} {v : Value} {d : DataW H} {p : List MemPlace} (hs : P.underlying t = some (.struct fs)) (hone : oneCellFields P fs = true) (hC : P.cellsOf t = fs.size)
    (hv : Value.okWide P w r b0 t v) (h : DataW.Trod enc P w base spare held t v d p) :
    ∃ l : List Value, v = .agg ⟨l⟩ ∧ l.length = fs.size ∧ ∀ (j : Nat) (f : Field), fs[j]? = some f → ∃ (c : Value) (n : Nat) (y : DataW H × List MemPlace), l[j]? = some c ∧ DataW.trod enc P w base spare held n f.type [c] = some y := by
  obtain ⟨cs, rfl, hsz⟩ := okWide_struct hs hv
  obtain ⟨l⟩ := cs
  obtain ⟨fuel, hf⟩ := h
  obtain ⟨xs, n, _, _, _, hlen, hg⟩ := DataW.trod_struct hs hf
  have hl : l.length = fs.size := by simpa using hsz.trans hC
  refine ⟨l, rfl, hl, fun j f hj => ?_⟩
  obtain ⟨o, k⟩ := hone_of hone j f hj
  have hjf : j < fs.size := (Array.getElem?_eq_some_iff.1 hj).1
  have hjl : j < l.length := by omega
  have h1 := hg j f hj
  rw [o, k] at h1
  have e : (l.drop j).take 1 = [l[j]] := by
    rw [List.drop_eq_getElem_cons hjl]; rfl
  replace h1 : DataW.trod enc P w base spare held n f.type ((l.drop j).take 1) = xs[j]? := by simpa [Value.cells] using h1
  rw [e] at h1
  have hx : xs[j]? = some (xs[j]'(by omega)) := List.getElem?_eq_getElem (by omega)
  exact ⟨l[j], _, _, List.getElem?_eq_getElem hjl, h1.trans hx⟩
end

theorem walk (w : World) (a0_0 : ByteArray) (w0_0 : a0_0.size ≤ maxLen) (a0_1 : Int) (w0_1 : (Lit.int .i64 a0_1).wf = true) (A0_2 : Option Addr) (C0_2 : Nat) (x0_2 : List (List Int)) (l0_2 : x0_2.length ≤ maxLen) (r0_2 : RowsR w A0_2 x0_2) (f0_2 : rowsFit x0_2) (a1 : Int) (w1 : (Lit.int .i64 a1).wf = true) :
    Calls Try.prog 8 #[.agg #[.string a0_0, .int .i64 a0_1, .slice A0_2 x0_2.length C0_2], .int .i64 a1] w fun e w' => e = .returned (.bool true) ∧ Below w.heap.size w w' := by
  have hB0 : Below w.heap.size w (w.alloc (.cells #[.string a0_0, .int .i64 a0_1, .slice A0_2 x0_2.length C0_2] 24)) := (by repeat (first | (with_reducible exact Below.refl _ _) | (with_reducible refine below_drewN' ?_ _) | (with_reducible refine Below.alloc ?_ (by simp <;> omega) _) | (with_reducible refine Below.setCell ?_ (by simp) _)))
  have R0 := Lib.hid (r0_2.below hB0)
  have SS0 := Lib.hid w0_0
  have FF0 := Lib.hid f0_2
  have LL0 := Lib.hid l0_2
  clear hB0 r0_2 f0_2
  by_cases hz : szF 1048576 a0_0 x0_2 < 0
  · go_enter Try.func8, Try.ntmps8
    go_wp2_with fail
    (with_reducible refine (szFan_any a0_0 a0_1 A0_2 C0_2 x0_2 (1048576) _ SS0.out (R0.out.below (Below.refl _ (w.alloc (.cells #[.string a0_0, .int .i64 a0_1, .slice A0_2 x0_2.length C0_2] 24)))) FF0.out LL0.out (by omega)).mono ?_)
    rintro e w1 ⟨rfl, hd1⟩
    have hb1 := hd1
    obtain ⟨hc1, hf1⟩ := bcell hb1
    have hz1 : w.heap.size < w1.heap.size := Nat.lt_of_lt_of_le (by first | (simp; done) | (simp; omega)) hb1.size
    clear hd1
    go_wp2
    go_ret
    exact ⟨rfl, (show Below w.heap.size w w1 from (below_box _ _).trans (hb1.mono (by simp)))⟩
  · have hfb := szF_bd (left := 1048576) (s := a0_0) (xs := x0_2) (by omega) (by omega)
    have HL0 := Lib.hid (And.intro (show x0_2.length ≤ 1048576 by have := hfb.2.1; omega) (show ∀ r ∈ x0_2, r.length ≤ 1048576 from fun r hr => by have := hfb.2.2 r hr; omega))
    have HS0 := Lib.hid (show a0_0.size ≤ 1048576 by have := hfb.1; omega)
    clear hfb
    go_enter Try.func8, Try.ntmps8
    go_wp2_with fail
    (with_reducible refine (szFan_any a0_0 a0_1 A0_2 C0_2 x0_2 (1048576) _ SS0.out (R0.out.below (Below.refl _ (w.alloc (.cells #[.string a0_0, .int .i64 a0_1, .slice A0_2 x0_2.length C0_2] 24)))) FF0.out LL0.out (by omega)).mono ?_)
    rintro e w1 ⟨rfl, hd1⟩
    have hb1 := hd1
    obtain ⟨hc1, hf1⟩ := bcell hb1
    have hz1 : w.heap.size < w1.heap.size := Nat.lt_of_lt_of_le (by first | (simp; done) | (simp; omega)) hb1.size
    clear hd1
    go_wp2_with fail
    (with_reducible refine (toFan_own a0_0 a0_1 A0_2 C0_2 x0_2 _ (R0.out.below hb1) HL0.out.1 HL0.out.2).mono ?_)
    rintro e w2 ⟨g2, rfl, hB2, hd2⟩
    have hb2 := hb1.trans (hd2.mono hb1.size)
    obtain ⟨hc2, hf2⟩ := bcell hb2
    have hz2 : w.heap.size < w2.heap.size := Nat.lt_of_lt_of_le (by first | (simp; done) | (simp; omega)) hb2.size
    have HB2 := Lib.hid hB2
    clear hB2
    have AA2 := Lib.hid HB2.out.rows
    clear hd2
    go_wp2_with fail
    (with_reducible refine (sWorkingPoint_any a0_0 a0_1 (some ⟨g2, 0, none⟩) x0_2.length x0_2 a1 _ AA2.out HS0.out HL0.out.1 HL0.out.2).mono ?_)
    rintro e w3 ⟨rfl, hd3⟩
    have hb3 := hb2.trans (hd3.mono hb2.size)
    obtain ⟨hc3, hf3⟩ := bcell hb3
    have hz3 : w.heap.size < w3.heap.size := Nat.lt_of_lt_of_le (by first | (simp; done) | (simp; omega)) hb3.size
    clear hd3
    go_wp2_with fail
    (with_reducible refine (toFan_own a0_0 a0_1 A0_2 C0_2 x0_2 _ (R0.out.below hb3) HL0.out.1 HL0.out.2).mono ?_)
    rintro e w4 ⟨g4, rfl, hB4, hd4⟩
    have hb4 := hb3.trans (hd4.mono hb3.size)
    obtain ⟨hc4, hf4⟩ := bcell hb4
    have hz4 : w.heap.size < w4.heap.size := Nat.lt_of_lt_of_le (by first | (simp; done) | (simp; omega)) hb4.size
    have HB4 := Lib.hid hB4
    clear hB4
    have AA4 := Lib.hid (HB4.out.rows.below (below_box _ (.cells #[.string a0_0, .int .i64 a0_1, .slice (some ⟨g4, 0, none⟩) x0_2.length x0_2.length] 27)))
    have hx4 := Below.alloc hb4 hb4.size (.cells #[.string a0_0, .int .i64 a0_1, .slice (some ⟨g4, 0, none⟩) x0_2.length x0_2.length] 27)
    clear hd4
    go_wp2_with fail
    (with_reducible refine (iWorkingPoint_any a0_0 a0_1 (some ⟨g4, 0, none⟩) x0_2.length x0_2 a1 _ AA4.out HS0.out HL0.out.1 HL0.out.2 (Nat.le_refl _) HL0.out.1).mono ?_)
    rintro e w5 ⟨rfl, hd5⟩
    have hb5 := hx4.trans (hd5.mono hx4.size)
    obtain ⟨hc5, hf5⟩ := bcell hb5
    have hz5 : w.heap.size < w5.heap.size := Nat.lt_of_lt_of_le (by first | (simp; done) | (simp; omega)) hb5.size
    have hb5_1 := (Below.refl (w4.alloc (.cells #[.string a0_0, .int .i64 a0_1, .slice (some ⟨g4, 0, none⟩) x0_2.length x0_2.length] 27)).heap.size (w4.alloc (.cells #[.string a0_0, .int .i64 a0_1, .slice (some ⟨g4, 0, none⟩) x0_2.length x0_2.length] 27))).trans (hd5.mono (Below.refl (w4.alloc (.cells #[.string a0_0, .int .i64 a0_1, .slice (some ⟨g4, 0, none⟩) x0_2.length x0_2.length] 27)).heap.size (w4.alloc (.cells #[.string a0_0, .int .i64 a0_1, .slice (some ⟨g4, 0, none⟩) x0_2.length x0_2.length] 27))).size)
    obtain ⟨hc5_1, hf5_1⟩ := bcell hb5_1
    have hz5_1 : w4.heap.size < w5.heap.size := Nat.lt_of_lt_of_le (by first | (simp; done) | (simp; omega)) hb5_1.size
    clear hd5
    go_wp2
    have hS00 : ((w5.cell? ⟨w4.heap.size, 0, none⟩ = some (.string a0_0) ∧ w5.cell? ⟨w4.heap.size, 1, none⟩ = some (.int .i64 a0_1) ∧ w5.cell? ⟨w4.heap.size, 2, none⟩ = some (.slice (some ⟨g4, 0, none⟩) x0_2.length x0_2.length)) ∧ (w5.cell? ⟨w.heap.size, 0, none⟩ = some (.string a0_0) ∧ w5.cell? ⟨w.heap.size, 1, none⟩ = some (.int .i64 a0_1) ∧ w5.cell? ⟨w.heap.size, 2, none⟩ = some (.slice A0_2 x0_2.length C0_2))) ∧ Below w5.heap.size w5 w5 := ⟨⟨⟨by simp [hc5_1, hz5_1], by simp [hc5_1, hz5_1], by simp [hc5_1, hz5_1]⟩, by simp [hc5], by simp [hc5], by simp [hc5]⟩, Below.refl _ _⟩
    refine wp_region_held (S := fun w' => ((w'.cell? ⟨w4.heap.size, 0, none⟩ = some (.string a0_0) ∧ w'.cell? ⟨w4.heap.size, 1, none⟩ = some (.int .i64 a0_1) ∧ w'.cell? ⟨w4.heap.size, 2, none⟩ = some (.slice (some ⟨g4, 0, none⟩) x0_2.length x0_2.length)) ∧ (w'.cell? ⟨w.heap.size, 0, none⟩ = some (.string a0_0) ∧ w'.cell? ⟨w.heap.size, 1, none⟩ = some (.int .i64 a0_1) ∧ w'.cell? ⟨w.heap.size, 2, none⟩ = some (.slice A0_2 x0_2.length C0_2))) ∧ Below w5.heap.size w5 w') (by kernel_rfl) ?_
    try (change wpAnyH _ _ _ _ _ _ _ _ (World.drew _))
    have hS0 := (show ((w5.drew.cell? ⟨w4.heap.size, 0, none⟩ = some (.string a0_0) ∧ w5.drew.cell? ⟨w4.heap.size, 1, none⟩ = some (.int .i64 a0_1) ∧ w5.drew.cell? ⟨w4.heap.size, 2, none⟩ = some (.slice (some ⟨g4, 0, none⟩) x0_2.length x0_2.length)) ∧ (w5.drew.cell? ⟨w.heap.size, 0, none⟩ = some (.string a0_0) ∧ w5.drew.cell? ⟨w.heap.size, 1, none⟩ = some (.int .i64 a0_1) ∧ w5.drew.cell? ⟨w.heap.size, 2, none⟩ = some (.slice A0_2 x0_2.length C0_2))) ∧ Below w5.heap.size w5 w5.drew from ⟨⟨⟨cellK hS00.1.1.1 (Below.drew (Below.refl _ _)), cellK hS00.1.1.2.1 (Below.drew (Below.refl _ _)), cellK hS00.1.1.2.2 (Below.drew (Below.refl _ _))⟩, cellK hS00.1.2.1 (Below.drew (Below.refl _ _)), cellK hS00.1.2.2.1 (Below.drew (Below.refl _ _)), cellK hS00.1.2.2.2 (Below.drew (Below.refl _ _))⟩, (Below.drew (Below.refl _ _))⟩)
    refine gTake 0 (v := ?_) rfl (by kernel_rfl) (by kernel_rfl) (by kernel_rfl) (fun _ _ _ h => h) (by kernel_rfl) ?_ hS0 ?_
    rotate_left
    · (intro W hW; have q0 := hW.1.1.1; have q1 := hW.1.1.2.1; have q2 := hW.1.1.2.2; have q3 := hW.1.2.1; have q4 := hW.1.2.2.1; have q5 := hW.1.2.2.2; clear hW; go_simp; try with_reducible rfl)
    refine gTake 1 (v := ?_) rfl (by kernel_rfl) (by kernel_rfl) (by kernel_rfl) (fun _ _ _ h => h) (by kernel_rfl) ?_ hS0 ?_
    rotate_left
    · (intro W hW; have q0 := hW.1.1.1; have q1 := hW.1.1.2.1; have q2 := hW.1.1.2.2; have q3 := hW.1.2.1; have q4 := hW.1.2.2.1; have q5 := hW.1.2.2.2; clear hW; go_simp; try with_reducible rfl)
    refine gOne 2 rfl (by kernel_rfl) (by kernel_rfl) (fun K hK => ?_)
    go_simp
    go_at_call 15
    (with_reducible refine (toFan_own a0_0 a0_1 A0_2 C0_2 x0_2 _ (R0.out.below (hb5.trans (hS0.2.mono hb5.size))) HL0.out.1 HL0.out.2).mono ?_)
    rintro e w6 ⟨g6, rfl, hB6, hd6⟩
    have HB6 := Lib.hid hB6
    clear hB6
    try go_simp
    have hS1 := (show ((w6.cell? ⟨w4.heap.size, 0, none⟩ = some (.string a0_0) ∧ w6.cell? ⟨w4.heap.size, 1, none⟩ = some (.int .i64 a0_1) ∧ w6.cell? ⟨w4.heap.size, 2, none⟩ = some (.slice (some ⟨g4, 0, none⟩) x0_2.length x0_2.length)) ∧ (w6.cell? ⟨w.heap.size, 0, none⟩ = some (.string a0_0) ∧ w6.cell? ⟨w.heap.size, 1, none⟩ = some (.int .i64 a0_1) ∧ w6.cell? ⟨w.heap.size, 2, none⟩ = some (.slice A0_2 x0_2.length C0_2))) ∧ Below w5.heap.size w5 w6 from ⟨⟨⟨cellK hS0.1.1.1 hd6, cellK hS0.1.1.2.1 hd6, cellK hS0.1.1.2.2 hd6⟩, cellK hS0.1.2.1 hd6, cellK hS0.1.2.2.1 hd6, cellK hS0.1.2.2.2 hd6⟩, hS0.2.trans (hd6.mono hS0.2.size)⟩)
    refine hK _ _ hS1 ?_
    clear hK K
    refine gOne 3 rfl (by kernel_rfl) (by kernel_rfl) (fun K hK => ?_)
    go_simp
    go_at_call 17
    (with_reducible refine (eqFan_same a0_0 a0_1 (some ⟨g4, 0, none⟩) (some ⟨g6, 0, none⟩) x0_2.length x0_2.length x0_2 _ (AA4.out.below (hb5_1.trans (hS1.2.mono hb5_1.size))) HB6.out.rows HL0.out.1 HL0.out.2).mono ?_)
    rintro e w7 ⟨rfl, hd7⟩
    try go_simp
    have hS2 := (show ((w7.cell? ⟨w4.heap.size, 0, none⟩ = some (.string a0_0) ∧ w7.cell? ⟨w4.heap.size, 1, none⟩ = some (.int .i64 a0_1) ∧ w7.cell? ⟨w4.heap.size, 2, none⟩ = some (.slice (some ⟨g4, 0, none⟩) x0_2.length x0_2.length)) ∧ (w7.cell? ⟨w.heap.size, 0, none⟩ = some (.string a0_0) ∧ w7.cell? ⟨w.heap.size, 1, none⟩ = some (.int .i64 a0_1) ∧ w7.cell? ⟨w.heap.size, 2, none⟩ = some (.slice A0_2 x0_2.length C0_2))) ∧ Below w5.heap.size w5 w7 from ⟨⟨⟨cellK hS1.1.1.1 hd7, cellK hS1.1.1.2.1 hd7, cellK hS1.1.1.2.2 hd7⟩, cellK hS1.1.2.1 hd7, cellK hS1.1.2.2.1 hd7, cellK hS1.1.2.2.2 hd7⟩, hS1.2.trans (hd7.mono hS1.2.size)⟩)
    refine hK _ _ hS2 ?_
    clear hK K
    refine gTake 4 (v := ?_) rfl (by kernel_rfl) (by kernel_rfl) (by kernel_rfl) (fun _ _ _ h => h) (by kernel_rfl) ?_ hS2 ?_
    rotate_left
    · (intro W hW; clear hW; go_simp; try with_reducible rfl)
    refine wpAnyH_done (by kernel_rfl) ?_ _
    go_simp
    go_wp2
    go_ret
    exact ⟨rfl, (below_box _ _).trans ((hb5.trans (hS2.2.mono hb5.size)).mono (by simp))⟩

set_option maxRecDepth 100000 in
theorem contract (H : Type) (enc : TypeId × Value → H) (W : World) (base : Nat) (args : Array Value) (ds gs : List (DataW H)) (before : List MemPlace)
    (hval : ∀ (j : Nat) t v, Try.f8.params[j]? = some t → args[j]? = some v → Value.okWide Try.prog W .any base t v)
    (hW : DataW.Whole enc Try.prog Try.f8.params.toList Rows.fnExactWorkingPointSpec.vars false W args.toList ds gs before) :
    Calls Try.prog 8 args W fun e W' => ∃ v, e = .returned v ∧ Rows.fnExactWorkingPointSpec.post enc Try.prog Try.f8 false true false false W args v W' := by
  have hW' := hW
  obtain ⟨p, q, hA0, hV, rfl, hfz, hnd⟩ := hW
  have hA : DataW.TrodAll enc Try.prog W 0 (fun _ => true) true Try.f8.params.toList args.toList ds p := hA0
  rw [Try.params8] at hA hval
  obtain ⟨v0, vs0, d0, ds0, p0, q0, hargs, rfl, rfl, h0, r0⟩ := trodAll_cons hA
  obtain ⟨v1, vs1, d1, ds1, p1, q1, rfl, rfl, rfl, h1, r1⟩ := trodAll_cons r0
  obtain ⟨rfl, rfl, rfl⟩ := trodAll_nil r1
  obtain rfl : args = #[v0, v1] := by cases args; simp_all
  obtain ⟨rfl, rfl⟩ := trodVars_none hV
  have k0 := h0
  have lt0 : ∀ x ∈ p0, x.block < W.heap.size := by obtain ⟨m, hm⟩ := k0; exact DataW.trod_lt m _ _ _ hm
  obtain ⟨l0, rfl, ll0, hf0⟩ := open_fields Try.underlying24 (by kernel_rfl) (by kernel_rfl) (hval 0 24 v0 rfl rfl) h0
  obtain ⟨c0_0, n0_0, y0_0, e0_0, t0_0⟩ := hf0 0 _ rfl
  obtain ⟨a0_0, q0_0, _, w0_0⟩ := DataW.trod_string Try.underlying9 t0_0
  obtain ⟨c0_1, n0_1, y0_1, e0_1, t0_1⟩ := hf0 1 _ rfl
  obtain ⟨a0_1, q0_1, _, w0_1⟩ := DataW.trod_int Try.underlying2 t0_1
  obtain ⟨c0_2, n0_2, y0_2, e0_2, t0_2⟩ := hf0 2 _ rfl
  obtain ⟨A0_2, C0_2, x0_2, q0_2, l0_2, r0_2, f0_2⟩ := open_rows t0_2
  obtain rfl := List.cons.inj q0_0 |>.1
  obtain rfl := List.cons.inj q0_1 |>.1
  obtain rfl := List.cons.inj q0_2 |>.1
  obtain rfl : l0 = [.string a0_0, .int .i64 a0_1, .slice A0_2 x0_2.length C0_2] := by
    match l0, ll0, e0_0, e0_1, e0_2 with
    | [x0, x1, x2], _, z0, z1, z2 => simp at z0 z1 z2; simp [z0, z1, z2]
  obtain ⟨a1, rfl, rfl, rfl, w1⟩ := open_int Try.underlying2 (hval 1 2 v1 rfl rfl) h1
  clear hA0
  refine (walk W a0_0 w0_0 a0_1 w0_1 A0_2 C0_2 x0_2 l0_2 r0_2 f0_2 a1 w1).mono fun e W' ⟨he, bel⟩ => ?_
  subst he
  exact ⟨_, rfl, _, _, _, [], _, [], hW', trodAll_mk1 (shut_bool Try.underlying4 _), (trodAll_cons_mk (Below.trod laidOut (by kernel_rfl) (of_decide_eq_true (by kernel_rfl)) k0 bel lt0) (trodAll_cons_mk (shut_int Try.underlying2 w1) trodAll_mk0)), rfl, bel.frame _, fun h => by cases h⟩

set_option maxRecDepth 100000 in
theorem lifted (os : Os) (started : os.Started) (H : Type) (enc : TypeId × Value → H) :
    ReturnsInHanded {} Try.checked os 8 .any (Rows.fnExactWorkingPointSpec.pre6 enc Try.prog Try.f8 Rows.fnExactWorkingPointRow.domain false) (Rows.fnExactWorkingPointSpec.post enc Try.prog Try.f8 false true false false) := by
  refine returnsInHanded_of_change (C := Try.checked) own started (by kernel_rfl) Try.func8
    (ChangeSpec.witness6 (enc := enc) (C := Try.checked) false ⟨#[], #[.agg #[.string ByteArray.empty, .int .i64 0, .slice none 0 0], .int .i64 0], []⟩ 8 (by kernel_rfl) (by kernel_rfl) (by kernel_rfl) (by kernel_rfl)) ?_
  intro W base args ds gs before hval hW hcnd _
  exact contract H enc W base args ds gs before hval hW

theorem proved : Rows.FnExactWorkingPointSaid :=
  OpenClaim.holds_of_wide 8 Try.f8 rfl rfl rfl rfl rfl rfl rfl ⟨rfl, rfl, rfl, rfl, rfl⟩ rfl rfl rfl rfl rfl (by kernel_rfl) Try.func8 (by kernel_rfl)
    (of_decide_eq_true (by kernel_rfl)) (by unfold Func.isWrapper; first | (rw [if_pos (by decide +kernel)]; kernel_rfl) | (rw [if_neg (by decide +kernel)]; exact ⟨rfl, rfl⟩))
    (fun os started H enc _ => lifted os started H enc)
#print axioms proved
end Go.Proofs.Ytcnpddmghjjhjaa.fnExactWorkingPoint
