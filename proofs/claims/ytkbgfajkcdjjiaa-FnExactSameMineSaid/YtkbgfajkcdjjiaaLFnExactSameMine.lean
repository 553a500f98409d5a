/-
  PROVED: for every input the function laws.FnExactSameMine returns true and leaves its arguments as they were. Conditions: none.
-/
import Derived.Test.YtkbgfajkcdjjiaaRows
import Derived.Test.YtkbgfajkcdjjiaaGf
import Derived.Test.YtkbgfajkcdjjiaaGg
import Derived.Test.YtkbgfajkcdjjiaaGh
import Derived.WalkKit
import Derived.ProofKit
import Derived.OpenShut
import Derived.ShutString
import Derived.ChangeOld
import Derived.Below
import Derived.Carry
import Derived.Lib.SmallJoins
import Derived.ChangeArms
namespace Go.Proofs.Ytkbgfajkcdjjiaa.fnExactSameMine
open Go.ChangeShapes Go.WideShapes Go.ChangeAt Go.RowKit
open Go.ChangeMaps (open_string shut_string)
open Go.Joins Go.Deep
set_option linter.unusedVariables false
set_option linter.unusedSimpArgs false

theorem own : ownKnob Try.prog.godebug = none := by kernel_rfl
theorem laidOut : laidOutB Try.prog = true := by kernel_rfl
section
variable {H : Type} {enc : TypeId × Value → H} {P : Program} {w : World} {base : Nat} {spare : Nat → Bool} {held : Bool}
theorem open_fields {r : Reach} {b0 : Nat} {t : TypeId} {fs : Array Field} {v : Value} {d : DataW H} {p : List MemPlace} (hs : P.underlying t = some (.struct fs)) (hone : oneCellFields P fs = true) (hC : P.cellsOf t = fs.size)
    (hv : Value.okWide P w r b0 t v) (h : DataW.Trod enc P w base spare held t v d p) :
    ∃ l : List Value, v = .agg ⟨l⟩ ∧ l.length = fs.size ∧ ∀ (j : Nat) (f : Field), fs[j]? = some f → ∃ (c : Value) (n : Nat) (y : DataW H × List MemPlace), l[j]? = some c ∧ DataW.trod enc P w base spare held n f.type [c] = some y := by
  obtain ⟨cs, rfl, hsz⟩ := okWide_struct hs hv
  obtain ⟨l⟩ := cs
  obtain ⟨fuel, hf⟩ := h
  obtain ⟨xs, n, _, _, _, hlen, hg⟩ := DataW.trod_struct hs hf
  have hl : l.length = fs.size := by simpa using hsz.trans hC
  refine ⟨l, rfl, hl, fun j f hj => ?_⟩
  obtain ⟨o, k⟩ := hone_of hone j f hj
  have hjf : j < fs.size := (Array.getElem?_eq_some_iff.1 hj).1
  have hjl : j < l.length := by omega
  have h1 := hg j f hj
  rw [o, k] at h1
  have e : (l.drop j).take 1 = [l[j]] := by
    rw [List.drop_eq_getElem_cons hjl]; rfl
  replace h1 : DataW.trod enc P w base spare held n f.type ((l.drop j).take 1) = xs[j]? := by simpa [Value.cells] using h1
  rw [e] at h1
  have hx : xs[j]? = some (xs[j]'(by omega)) := List.getElem?_eq_getElem (by omega)
  exact ⟨l[j], _, _, List.getElem?_eq_getElem hjl, h1.trans hx⟩
end
theorem alc2 {X : World} {b : Nat} {x y : Value} {t : TypeId} (h : X.heap.size = b) : (X.alloc (.cells #[x, y] t)).cell? ⟨b, 0, none⟩ = some x ∧ (X.alloc (.cells #[x, y] t)).cell? ⟨b, 1, none⟩ = some y := by
  subst h
  exact ⟨by simp, by simp⟩
set_option maxHeartbeats 4000000 in

theorem walk (w : World) (a0_0 : Int) (w0_0 : (Lit.int .i64 a0_0).wf = true) (A0_1 : Option Addr) (C0_1 : Nat) (x0_1 : List Aw) (l0_1 : x0_1.length ≤ maxLen) (r0_1 : AwR w A0_1 x0_1) (f0_1 : ∀ a ∈ x0_1, a.fits) (a1_0 : Int) (w1_0 : (Lit.int .i64 a1_0).wf = true) (A1_1 : Option Addr) (C1_1 : Nat) (x1_1 : List Aw) (l1_1 : x1_1.length ≤ maxLen) (r1_1 : AwR w A1_1 x1_1) (f1_1 : ∀ a ∈ x1_1, a.fits) :
    Calls Try.prog 4 #[.agg #[.int .i64 a0_0, .slice A0_1 x0_1.length C0_1], .agg #[.int .i64 a1_0, .slice A1_1 x1_1.length C1_1]] w fun e w' => e = .returned (.bool true) ∧ Below w.heap.size w w' := by
  have hB0 : Below w.heap.size w ((w.alloc (.cells #[.int .i64 a0_0, .slice A0_1 x0_1.length C0_1] 24)).alloc (.cells #[.int .i64 a1_0, .slice A1_1 x1_1.length C1_1] 24)) := (by repeat (first | (with_reducible exact Below.refl _ _) | (with_reducible refine below_drewN' ?_ _) | (with_reducible refine Below.alloc ?_ (by simp <;> omega) _) | (with_reducible refine Below.setCell ?_ (by simp) _)))
  have HBX := Lib.hid hB0
  have R0 := Lib.hid (r0_1.below hB0)
  have S0 := Lib.hid (fun a ha => (f0_1 a ha).1)
  have HLL0 := Lib.hid l0_1
  have R1 := Lib.hid (r1_1.below hB0)
  have S1 := Lib.hid (fun a ha => (f1_1 a ha).1)
  have HLL1 := Lib.hid l1_1
  have HA1 := Lib.hid (alc2 (X := w.alloc (.cells #[.int .i64 a0_0, .slice A0_1 x0_1.length C0_1] 24)) (b := w.heap.size + 1) (x := .int .i64 a1_0) (y := .slice A1_1 x1_1.length C1_1) (t := 24) (by simp))
  have HA00 := Lib.hid (alc2 (X := w) (b := w.heap.size) (x := .int .i64 a0_0) (y := .slice A0_1 x0_1.length C0_1) (t := 24) rfl)
  have HA0 := Lib.hid (And.intro (cellK HA00.out.1 (below_box _ (.cells #[.int .i64 a1_0, .slice A1_1 x1_1.length C1_1] 24))) (cellK HA00.out.2 (below_box _ (.cells #[.int .i64 a1_0, .slice A1_1 x1_1.length C1_1] 24))))
  clear hB0 r0_1 r1_1 HA00
  by_cases hs : szL 1048576 x0_1 < 0
  · go_enter Try.func4, Try.ntmps4
    go_wp2_with fail
    (with_reducible refine (szMine_any a0_0 A0_1 C0_1 x0_1 (1048576) _ (R0.out.below (Below.refl _ ((w.alloc (.cells #[.int .i64 a0_0, .slice A0_1 x0_1.length C0_1] 24)).alloc (.cells #[.int .i64 a1_0, .slice A1_1 x1_1.length C1_1] 24)))) S0.out HLL0.out (by omega)).mono ?_)
    rintro e w1 ⟨rfl, hd1⟩
    have hb1 := hd1
    obtain ⟨hc1, hf1⟩ := bcell hb1
    have hz1 : w.heap.size < w1.heap.size := Nat.lt_of_lt_of_le (by first | (simp; done) | (simp; omega)) hb1.size
    have hq1 : w.heap.size + 1 < w1.heap.size := Nat.lt_of_lt_of_le (show w.heap.size + 1 < w.heap.size + 1 + 1 by omega) (by have := hb1.size; simp at this; omega)
    have e1a : w1.cell? ⟨w.heap.size + 1, 0, none⟩ = some (.int .i64 a1_0) := cellK HA1.out.1 hb1
    have e1b : w1.cell? ⟨w.heap.size + 1, 1, none⟩ = some (.slice A1_1 x1_1.length C1_1) := cellK HA1.out.2 hb1
    have e1c : w1.cell? ⟨w.heap.size, 0, none⟩ = some (.int .i64 a0_0) := cellK HA0.out.1 hb1
    have e1d : w1.cell? ⟨w.heap.size, 1, none⟩ = some (.slice A0_1 x0_1.length C0_1) := cellK HA0.out.2 hb1
    clear hd1
    go_wp2
    go_ret
    exact ⟨rfl, HBX.out.trans (hb1.mono HBX.out.size)⟩
  · have HL0 := Lib.hid (show x0_1.length ≤ 1048576 from by have := (szL_bd (by omega) (Int.not_lt.1 hs)).1; omega)
    have hle := szL_le (left := 1048576) (xs := x0_1) (by omega)
    obtain ⟨lf, hlf⟩ : ∃ lf, szL 1048576 x0_1 = lf := ⟨_, rfl⟩
    have HLF := Lib.hid hlf
    have hl0 : 0 ≤ lf ∧ lf ≤ 1048576 := by rw [hlf] at hs hle; omega
    by_cases hs2 : szL lf x1_1 < 0
    · go_enter Try.func4, Try.ntmps4
      go_wp2_with fail
      (with_reducible refine (szMine_any a0_0 A0_1 C0_1 x0_1 (1048576) _ (R0.out.below (Below.refl _ ((w.alloc (.cells #[.int .i64 a0_0, .slice A0_1 x0_1.length C0_1] 24)).alloc (.cells #[.int .i64 a1_0, .slice A1_1 x1_1.length C1_1] 24)))) S0.out HLL0.out (by omega)).mono ?_)
      rintro e w1 ⟨rfl, hd1⟩
      have hb1 := hd1
      obtain ⟨hc1, hf1⟩ := bcell hb1
      have hz1 : w.heap.size < w1.heap.size := Nat.lt_of_lt_of_le (by first | (simp; done) | (simp; omega)) hb1.size
      have hq1 : w.heap.size + 1 < w1.heap.size := Nat.lt_of_lt_of_le (show w.heap.size + 1 < w.heap.size + 1 + 1 by omega) (by have := hb1.size; simp at this; omega)
      have e1a : w1.cell? ⟨w.heap.size + 1, 0, none⟩ = some (.int .i64 a1_0) := cellK HA1.out.1 hb1
      have e1b : w1.cell? ⟨w.heap.size + 1, 1, none⟩ = some (.slice A1_1 x1_1.length C1_1) := cellK HA1.out.2 hb1
      have e1c : w1.cell? ⟨w.heap.size, 0, none⟩ = some (.int .i64 a0_0) := cellK HA0.out.1 hb1
      have e1d : w1.cell? ⟨w.heap.size, 1, none⟩ = some (.slice A0_1 x0_1.length C0_1) := cellK HA0.out.2 hb1
      rw [HLF.out]
      clear hd1
      go_wp2_with fail
      (with_reducible refine (szMine_any a1_0 A1_1 C1_1 x1_1 (lf) _ (R1.out.below hb1) S1.out HLL1.out (by omega)).mono ?_)
      rintro e w2 ⟨rfl, hd2⟩
      have hb2 := hb1.trans (hd2.mono hb1.size)
      obtain ⟨hc2, hf2⟩ := bcell hb2
      have hz2 : w.heap.size < w2.heap.size := Nat.lt_of_lt_of_le (by first | (simp; done) | (simp; omega)) hb2.size
      have hq2 : w.heap.size + 1 < w2.heap.size := Nat.lt_of_lt_of_le (show w.heap.size + 1 < w.heap.size + 1 + 1 by omega) (by have := hb2.size; simp at this; omega)
      have e2a : w2.cell? ⟨w.heap.size + 1, 0, none⟩ = some (.int .i64 a1_0) := cellK HA1.out.1 hb2
      have e2b : w2.cell? ⟨w.heap.size + 1, 1, none⟩ = some (.slice A1_1 x1_1.length C1_1) := cellK HA1.out.2 hb2
      have e2c : w2.cell? ⟨w.heap.size, 0, none⟩ = some (.int .i64 a0_0) := cellK HA0.out.1 hb2
      have e2d : w2.cell? ⟨w.heap.size, 1, none⟩ = some (.slice A0_1 x0_1.length C0_1) := cellK HA0.out.2 hb2
      clear hd2
      go_wp2
      go_ret
      exact ⟨rfl, HBX.out.trans (hb2.mono HBX.out.size)⟩
    · have HL1 := Lib.hid (show x1_1.length ≤ 1048576 from by have := (szL_bd (by omega) (Int.not_lt.1 hs2)).1; omega)
      go_enter Try.func4, Try.ntmps4
      go_wp2_with fail
      (with_reducible refine (szMine_any a0_0 A0_1 C0_1 x0_1 (1048576) _ (R0.out.below (Below.refl _ ((w.alloc (.cells #[.int .i64 a0_0, .slice A0_1 x0_1.length C0_1] 24)).alloc (.cells #[.int .i64 a1_0, .slice A1_1 x1_1.length C1_1] 24)))) S0.out HLL0.out (by omega)).mono ?_)
      rintro e w1 ⟨rfl, hd1⟩
      have hb1 := hd1
      obtain ⟨hc1, hf1⟩ := bcell hb1
      have hz1 : w.heap.size < w1.heap.size := Nat.lt_of_lt_of_le (by first | (simp; done) | (simp; omega)) hb1.size
      have hq1 : w.heap.size + 1 < w1.heap.size := Nat.lt_of_lt_of_le (show w.heap.size + 1 < w.heap.size + 1 + 1 by omega) (by have := hb1.size; simp at this; omega)
      have e1a : w1.cell? ⟨w.heap.size + 1, 0, none⟩ = some (.int .i64 a1_0) := cellK HA1.out.1 hb1
      have e1b : w1.cell? ⟨w.heap.size + 1, 1, none⟩ = some (.slice A1_1 x1_1.length C1_1) := cellK HA1.out.2 hb1
      have e1c : w1.cell? ⟨w.heap.size, 0, none⟩ = some (.int .i64 a0_0) := cellK HA0.out.1 hb1
      have e1d : w1.cell? ⟨w.heap.size, 1, none⟩ = some (.slice A0_1 x0_1.length C0_1) := cellK HA0.out.2 hb1
      rw [HLF.out]
      clear hd1
      go_wp2_with fail
      (with_reducible refine (szMine_any a1_0 A1_1 C1_1 x1_1 (lf) _ (R1.out.below hb1) S1.out HLL1.out (by omega)).mono ?_)
      rintro e w2 ⟨rfl, hd2⟩
      have hb2 := hb1.trans (hd2.mono hb1.size)
      obtain ⟨hc2, hf2⟩ := bcell hb2
      have hz2 : w.heap.size < w2.heap.size := Nat.lt_of_lt_of_le (by first | (simp; done) | (simp; omega)) hb2.size
      have hq2 : w.heap.size + 1 < w2.heap.size := Nat.lt_of_lt_of_le (show w.heap.size + 1 < w.heap.size + 1 + 1 by omega) (by have := hb2.size; simp at this; omega)
      have e2a : w2.cell? ⟨w.heap.size + 1, 0, none⟩ = some (.int .i64 a1_0) := cellK HA1.out.1 hb2
      have e2b : w2.cell? ⟨w.heap.size + 1, 1, none⟩ = some (.slice A1_1 x1_1.length C1_1) := cellK HA1.out.2 hb2
      have e2c : w2.cell? ⟨w.heap.size, 0, none⟩ = some (.int .i64 a0_0) := cellK HA0.out.1 hb2
      have e2d : w2.cell? ⟨w.heap.size, 1, none⟩ = some (.slice A0_1 x0_1.length C0_1) := cellK HA0.out.2 hb2
      clear hd2
      go_wp2_with fail
      have hS00 : ((w2.cell? ⟨w.heap.size, 0, none⟩ = some (.int .i64 a0_0) ∧ w2.cell? ⟨w.heap.size, 1, none⟩ = some (.slice A0_1 x0_1.length C0_1)) ∧ (w2.cell? ⟨w.heap.size + 1, 0, none⟩ = some (.int .i64 a1_0) ∧ w2.cell? ⟨w.heap.size + 1, 1, none⟩ = some (.slice A1_1 x1_1.length C1_1))) ∧ Below w2.heap.size w2 w2 := ⟨⟨⟨e2c, e2d⟩, e2a, e2b⟩, Below.refl _ _⟩
      refine wp_region_held (S := fun w' => ((w'.cell? ⟨w.heap.size, 0, none⟩ = some (.int .i64 a0_0) ∧ w'.cell? ⟨w.heap.size, 1, none⟩ = some (.slice A0_1 x0_1.length C0_1)) ∧ (w'.cell? ⟨w.heap.size + 1, 0, none⟩ = some (.int .i64 a1_0) ∧ w'.cell? ⟨w.heap.size + 1, 1, none⟩ = some (.slice A1_1 x1_1.length C1_1))) ∧ Below w2.heap.size w2 w') (by kernel_rfl) ?_
      try (change wpAnyH _ _ _ _ _ _ _ _ (World.drew _))
      have hS0 := (show ((w2.drew.cell? ⟨w.heap.size, 0, none⟩ = some (.int .i64 a0_0) ∧ w2.drew.cell? ⟨w.heap.size, 1, none⟩ = some (.slice A0_1 x0_1.length C0_1)) ∧ (w2.drew.cell? ⟨w.heap.size + 1, 0, none⟩ = some (.int .i64 a1_0) ∧ w2.drew.cell? ⟨w.heap.size + 1, 1, none⟩ = some (.slice A1_1 x1_1.length C1_1))) ∧ Below w2.heap.size w2 w2.drew from ⟨⟨⟨cellK hS00.1.1.1 (Below.drew (Below.refl _ _)), cellK hS00.1.1.2 (Below.drew (Below.refl _ _))⟩, cellK hS00.1.2.1 (Below.drew (Below.refl _ _)), cellK hS00.1.2.2 (Below.drew (Below.refl _ _))⟩, (Below.drew (Below.refl _ _))⟩)
      refine gTake 0 (v := ?_) rfl (by kernel_rfl) (by kernel_rfl) (by kernel_rfl) (fun _ _ _ h => h) (by kernel_rfl) ?_ hS0 ?_
      rotate_left
      · (intro W hW; have q0 := hW.1.1.1; have q1 := hW.1.1.2; have q2 := hW.1.2.1; have q3 := hW.1.2.2; clear hW; go_simp; try with_reducible rfl)
      refine gTake 2 (v := ?_) rfl (by kernel_rfl) (by kernel_rfl) (by kernel_rfl) (fun _ _ _ h => h) (by kernel_rfl) ?_ hS0 ?_
      rotate_left
      · (intro W hW; have q0 := hW.1.1.1; have q1 := hW.1.1.2; have q2 := hW.1.2.1; have q3 := hW.1.2.2; clear hW; go_simp; try with_reducible rfl)
      refine gOne 1 rfl (by kernel_rfl) (by kernel_rfl) (fun K hK => ?_)
      go_simp
      go_at_call 16
      (with_reducible refine (toMine_any a0_0 A0_1 C0_1 x0_1 _ (R0.out.below (hb2.trans (hS0.2.mono hb2.size))) HL0.out).mono ?_)
      rintro e w3 ⟨g3, rfl, hB3, hg3, hd3⟩
      have HB3 := Lib.hid hB3
      clear hB3 hg3
      try go_simp
      have hS1 := (show ((w3.cell? ⟨w.heap.size, 0, none⟩ = some (.int .i64 a0_0) ∧ w3.cell? ⟨w.heap.size, 1, none⟩ = some (.slice A0_1 x0_1.length C0_1)) ∧ (w3.cell? ⟨w.heap.size + 1, 0, none⟩ = some (.int .i64 a1_0) ∧ w3.cell? ⟨w.heap.size + 1, 1, none⟩ = some (.slice A1_1 x1_1.length C1_1))) ∧ Below w2.heap.size w2 w3 from ⟨⟨⟨cellK hS0.1.1.1 hd3, cellK hS0.1.1.2 hd3⟩, cellK hS0.1.2.1 hd3, cellK hS0.1.2.2 hd3⟩, hS0.2.trans (hd3.mono hS0.2.size)⟩)
      refine hK _ _ hS1 ?_
      clear hK K
      refine gOne 3 rfl (by kernel_rfl) (by kernel_rfl) (fun K hK => ?_)
      go_simp
      go_at_call 16
      (with_reducible refine (toMine_any a1_0 A1_1 C1_1 x1_1 _ (R1.out.below (hb2.trans (hS1.2.mono hb2.size))) HL1.out).mono ?_)
      rintro e w4 ⟨g4, rfl, hB4, hg4, hd4⟩
      have HB4 := Lib.hid hB4
      clear hB4 hg4
      try go_simp
      have hS2 := (show ((w4.cell? ⟨w.heap.size, 0, none⟩ = some (.int .i64 a0_0) ∧ w4.cell? ⟨w.heap.size, 1, none⟩ = some (.slice A0_1 x0_1.length C0_1)) ∧ (w4.cell? ⟨w.heap.size + 1, 0, none⟩ = some (.int .i64 a1_0) ∧ w4.cell? ⟨w.heap.size + 1, 1, none⟩ = some (.slice A1_1 x1_1.length C1_1))) ∧ Below w2.heap.size w2 w4 from ⟨⟨⟨cellK hS1.1.1.1 hd4, cellK hS1.1.1.2 hd4⟩, cellK hS1.1.2.1 hd4, cellK hS1.1.2.2 hd4⟩, hS1.2.trans (hd4.mono hS1.2.size)⟩)
      refine hK _ _ hS2 ?_
      clear hK K
      refine gOne 4 rfl (by kernel_rfl) (by kernel_rfl) (fun K hK => ?_)
      go_simp
      go_at_call 19
      (with_reducible refine (sSameMine_any a0_0 a1_0 (some ⟨g3, 0, none⟩) (some ⟨g4, 0, none⟩) x0_1.length x1_1.length x0_1 x1_1 _ (HB3.out.awr.below hd4) HB4.out.awr HL0.out HL1.out).mono ?_)
      rintro e w5 ⟨rfl, hd5⟩
      try go_simp
      have hS3 := (show ((w5.cell? ⟨w.heap.size, 0, none⟩ = some (.int .i64 a0_0) ∧ w5.cell? ⟨w.heap.size, 1, none⟩ = some (.slice A0_1 x0_1.length C0_1)) ∧ (w5.cell? ⟨w.heap.size + 1, 0, none⟩ = some (.int .i64 a1_0) ∧ w5.cell? ⟨w.heap.size + 1, 1, none⟩ = some (.slice A1_1 x1_1.length C1_1))) ∧ Below w2.heap.size w2 w5 from ⟨⟨⟨cellK hS2.1.1.1 hd5, cellK hS2.1.1.2 hd5⟩, cellK hS2.1.2.1 hd5, cellK hS2.1.2.2 hd5⟩, hS2.2.trans (hd5.mono hS2.2.size)⟩)
      refine hK _ _ hS3 ?_
      clear hK K
      refine gTake 5 (v := ?_) rfl (by kernel_rfl) (by kernel_rfl) (by kernel_rfl) (fun _ _ _ h => h) (by kernel_rfl) ?_ hS3 ?_
      rotate_left
      · (intro W hW; clear hW; go_simp; try with_reducible rfl)
      refine wpAnyH_done (by kernel_rfl) ?_ _
      go_simp
      clear hd3 hd4 hd5
      have hd5 := hS3.2
      clear hS0 hS1 hS2 hS3 hS00
      have hrr : (sameM a0_0 a1_0 x0_1 x1_1 != sameM a0_0 a1_0 x0_1 x1_1) = false := by simp
      have hb5 := hb2.trans (hd5.mono hb2.size)
      obtain ⟨hc5, hf5⟩ := bcell hb5
      have hz5 : w.heap.size < w5.heap.size := Nat.lt_of_lt_of_le (by first | (simp; done) | (simp; omega)) hb5.size
      have hq5 : w.heap.size + 1 < w5.heap.size := Nat.lt_of_lt_of_le (show w.heap.size + 1 < w.heap.size + 1 + 1 by omega) (by have := hb5.size; simp at this; omega)
      have e5a : w5.cell? ⟨w.heap.size + 1, 0, none⟩ = some (.int .i64 a1_0) := cellK HA1.out.1 hb5
      have e5b : w5.cell? ⟨w.heap.size + 1, 1, none⟩ = some (.slice A1_1 x1_1.length C1_1) := cellK HA1.out.2 hb5
      have e5c : w5.cell? ⟨w.heap.size, 0, none⟩ = some (.int .i64 a0_0) := cellK HA0.out.1 hb5
      have e5d : w5.cell? ⟨w.heap.size, 1, none⟩ = some (.slice A0_1 x0_1.length C0_1) := cellK HA0.out.2 hb5
      clear hd5
      go_wp2_with fail
      (with_reducible refine (toMine_any a0_0 A0_1 C0_1 x0_1 _ (R0.out.below hb5) HL0.out).mono ?_)
      rintro e w6 ⟨g6, rfl, hB6, hg6, hd6⟩
      have hb6 := hb5.trans (hd6.mono hb5.size)
      obtain ⟨hc6, hf6⟩ := bcell hb6
      have hz6 : w.heap.size < w6.heap.size := Nat.lt_of_lt_of_le (by first | (simp; done) | (simp; omega)) hb6.size
      have hq6 : w.heap.size + 1 < w6.heap.size := Nat.lt_of_lt_of_le (show w.heap.size + 1 < w.heap.size + 1 + 1 by omega) (by have := hb6.size; simp at this; omega)
      have e6a : w6.cell? ⟨w.heap.size + 1, 0, none⟩ = some (.int .i64 a1_0) := cellK HA1.out.1 hb6
      have e6b : w6.cell? ⟨w.heap.size + 1, 1, none⟩ = some (.slice A1_1 x1_1.length C1_1) := cellK HA1.out.2 hb6
      have e6c : w6.cell? ⟨w.heap.size, 0, none⟩ = some (.int .i64 a0_0) := cellK HA0.out.1 hb6
      have e6d : w6.cell? ⟨w.heap.size, 1, none⟩ = some (.slice A0_1 x0_1.length C0_1) := cellK HA0.out.2 hb6
      have HB6 := Lib.hid hB6
      have HG6 := Lib.hid hg6
      clear hB6 hg6
      have AA6 := Lib.hid (HB6.out.awr.below (below_box _ (.cells #[.int .i64 a0_0, .slice (some ⟨g6, 0, none⟩) x0_1.length x0_1.length] 29)))
      have hx6 := Below.alloc hb6 hb6.size (.cells #[.int .i64 a0_0, .slice (some ⟨g6, 0, none⟩) x0_1.length x0_1.length] 29)
      clear hd6
      go_wp2_with fail
      (with_reducible refine (toMine_any a1_0 A1_1 C1_1 x1_1 _ (R1.out.below hx6) HL1.out).mono ?_)
      rintro e w7 ⟨g7, rfl, hB7, hg7, hd7⟩
      have hb7 := hx6.trans (hd7.mono hx6.size)
      obtain ⟨hc7, hf7⟩ := bcell hb7
      have hz7 : w.heap.size < w7.heap.size := Nat.lt_of_lt_of_le (by first | (simp; done) | (simp; omega)) hb7.size
      have hb7_1 := (Below.refl (w6.alloc (.cells #[.int .i64 a0_0, .slice (some ⟨g6, 0, none⟩) x0_1.length x0_1.length] 29)).heap.size (w6.alloc (.cells #[.int .i64 a0_0, .slice (some ⟨g6, 0, none⟩) x0_1.length x0_1.length] 29))).trans (hd7.mono (Below.refl (w6.alloc (.cells #[.int .i64 a0_0, .slice (some ⟨g6, 0, none⟩) x0_1.length x0_1.length] 29)).heap.size (w6.alloc (.cells #[.int .i64 a0_0, .slice (some ⟨g6, 0, none⟩) x0_1.length x0_1.length] 29))).size)
      obtain ⟨hc7_1, hf7_1⟩ := bcell hb7_1
      have hz7_1 : w6.heap.size < w7.heap.size := Nat.lt_of_lt_of_le (by first | (simp; done) | (simp; omega)) hb7_1.size
      have hq7 : w.heap.size + 1 < w7.heap.size := Nat.lt_of_lt_of_le (show w.heap.size + 1 < w.heap.size + 1 + 1 by omega) (by have := hb7.size; simp at this; omega)
      have e7a : w7.cell? ⟨w.heap.size + 1, 0, none⟩ = some (.int .i64 a1_0) := cellK HA1.out.1 hb7
      have e7b : w7.cell? ⟨w.heap.size + 1, 1, none⟩ = some (.slice A1_1 x1_1.length C1_1) := cellK HA1.out.2 hb7
      have e7c : w7.cell? ⟨w.heap.size, 0, none⟩ = some (.int .i64 a0_0) := cellK HA0.out.1 hb7
      have e7d : w7.cell? ⟨w.heap.size, 1, none⟩ = some (.slice A0_1 x0_1.length C0_1) := cellK HA0.out.2 hb7
      have HB7 := Lib.hid hB7
      have HG7 := Lib.hid hg7
      clear hB7 hg7
      have AA7 := Lib.hid (HB7.out.awr.below (below_box _ (.cells #[.int .i64 a1_0, .slice (some ⟨g7, 0, none⟩) x1_1.length x1_1.length] 29)))
      have hx7 := Below.alloc hb7 hb7.size (.cells #[.int .i64 a1_0, .slice (some ⟨g7, 0, none⟩) x1_1.length x1_1.length] 29)
      have hx7_1 := Below.alloc hb7_1 hb7_1.size (.cells #[.int .i64 a1_0, .slice (some ⟨g7, 0, none⟩) x1_1.length x1_1.length] 29)
      clear hd7
      go_wp2_with fail
      (with_reducible refine (iSameMine_any a0_0 a1_0 (some ⟨g6, 0, none⟩) (some ⟨g7, 0, none⟩) x0_1.length x1_1.length x0_1 x1_1 _ (AA6.out.below hx7_1) AA7.out HL0.out HL1.out).mono ?_)
      rintro e w8 ⟨rfl, hd8⟩
      have hb8 := hx7.trans (hd8.mono hx7.size)
      obtain ⟨hc8, hf8⟩ := bcell hb8
      have hz8 : w.heap.size < w8.heap.size := Nat.lt_of_lt_of_le (by first | (simp; done) | (simp; omega)) hb8.size
      have hb8_1 := hx7_1.trans (hd8.mono hx7_1.size)
      obtain ⟨hc8_1, hf8_1⟩ := bcell hb8_1
      have hz8_1 : w6.heap.size < w8.heap.size := Nat.lt_of_lt_of_le (by first | (simp; done) | (simp; omega)) hb8_1.size
      have hb8_2 := (Below.refl (w7.alloc (.cells #[.int .i64 a1_0, .slice (some ⟨g7, 0, none⟩) x1_1.length x1_1.length] 29)).heap.size (w7.alloc (.cells #[.int .i64 a1_0, .slice (some ⟨g7, 0, none⟩) x1_1.length x1_1.length] 29))).trans (hd8.mono (Below.refl (w7.alloc (.cells #[.int .i64 a1_0, .slice (some ⟨g7, 0, none⟩) x1_1.length x1_1.length] 29)).heap.size (w7.alloc (.cells #[.int .i64 a1_0, .slice (some ⟨g7, 0, none⟩) x1_1.length x1_1.length] 29))).size)
      obtain ⟨hc8_2, hf8_2⟩ := bcell hb8_2
      have hz8_2 : w7.heap.size < w8.heap.size := Nat.lt_of_lt_of_le (by first | (simp; done) | (simp; omega)) hb8_2.size
      have hq8 : w.heap.size + 1 < w8.heap.size := Nat.lt_of_lt_of_le (show w.heap.size + 1 < w.heap.size + 1 + 1 by omega) (by have := hb8.size; simp at this; omega)
      have e8a : w8.cell? ⟨w.heap.size + 1, 0, none⟩ = some (.int .i64 a1_0) := cellK HA1.out.1 hb8
      have e8b : w8.cell? ⟨w.heap.size + 1, 1, none⟩ = some (.slice A1_1 x1_1.length C1_1) := cellK HA1.out.2 hb8
      have e8c : w8.cell? ⟨w.heap.size, 0, none⟩ = some (.int .i64 a0_0) := cellK HA0.out.1 hb8
      have e8d : w8.cell? ⟨w.heap.size, 1, none⟩ = some (.slice A0_1 x0_1.length C0_1) := cellK HA0.out.2 hb8
      clear hd8
      go_wp2_with fail
      have hS00 : ((w8.cell? ⟨w6.heap.size, 0, none⟩ = some (.int .i64 a0_0) ∧ w8.cell? ⟨w6.heap.size, 1, none⟩ = some (.slice (some ⟨g6, 0, none⟩) x0_1.length x0_1.length)) ∧ (w8.cell? ⟨w.heap.size, 0, none⟩ = some (.int .i64 a0_0) ∧ w8.cell? ⟨w.heap.size, 1, none⟩ = some (.slice A0_1 x0_1.length C0_1))) ∧ Below w8.heap.size w8 w8 := ⟨⟨⟨by simp [hc8_1, hz8_1], by simp [hc8_1, hz8_1]⟩, e8c, e8d⟩, Below.refl _ _⟩
      refine wp_region_held (S := fun w' => ((w'.cell? ⟨w6.heap.size, 0, none⟩ = some (.int .i64 a0_0) ∧ w'.cell? ⟨w6.heap.size, 1, none⟩ = some (.slice (some ⟨g6, 0, none⟩) x0_1.length x0_1.length)) ∧ (w'.cell? ⟨w.heap.size, 0, none⟩ = some (.int .i64 a0_0) ∧ w'.cell? ⟨w.heap.size, 1, none⟩ = some (.slice A0_1 x0_1.length C0_1))) ∧ Below w8.heap.size w8 w') (by kernel_rfl) ?_
      try (change wpAnyH _ _ _ _ _ _ _ _ (World.drew _))
      have hS0 := (show ((w8.drew.cell? ⟨w6.heap.size, 0, none⟩ = some (.int .i64 a0_0) ∧ w8.drew.cell? ⟨w6.heap.size, 1, none⟩ = some (.slice (some ⟨g6, 0, none⟩) x0_1.length x0_1.length)) ∧ (w8.drew.cell? ⟨w.heap.size, 0, none⟩ = some (.int .i64 a0_0) ∧ w8.drew.cell? ⟨w.heap.size, 1, none⟩ = some (.slice A0_1 x0_1.length C0_1))) ∧ Below w8.heap.size w8 w8.drew from ⟨⟨⟨cellK hS00.1.1.1 (Below.drew (Below.refl _ _)), cellK hS00.1.1.2 (Below.drew (Below.refl _ _))⟩, cellK hS00.1.2.1 (Below.drew (Below.refl _ _)), cellK hS00.1.2.2 (Below.drew (Below.refl _ _))⟩, (Below.drew (Below.refl _ _))⟩)
      refine gTake 0 (v := ?_) rfl (by kernel_rfl) (by kernel_rfl) (by kernel_rfl) (fun _ _ _ h => h) (by kernel_rfl) ?_ hS0 ?_
      rotate_left
      · (intro W hW; have q0 := hW.1.1.1; have q1 := hW.1.1.2; have q2 := hW.1.2.1; have q3 := hW.1.2.2; clear hW; go_simp; try with_reducible rfl)
      refine gTake 1 (v := ?_) rfl (by kernel_rfl) (by kernel_rfl) (by kernel_rfl) (fun _ _ _ h => h) (by kernel_rfl) ?_ hS0 ?_
      rotate_left
      · (intro W hW; have q0 := hW.1.1.1; have q1 := hW.1.1.2; have q2 := hW.1.2.1; have q3 := hW.1.2.2; clear hW; go_simp; try with_reducible rfl)
      refine gOne 2 rfl (by kernel_rfl) (by kernel_rfl) (fun K hK => ?_)
      go_simp
      go_at_call 16
      (with_reducible refine (toMine_any a0_0 A0_1 C0_1 x0_1 _ (R0.out.below (hb8.trans (hS0.2.mono hb8.size))) HL0.out).mono ?_)
      rintro e w9 ⟨g9, rfl, hB9, hg9, hd9⟩
      have HB9 := Lib.hid hB9
      clear hB9 hg9
      try go_simp
      have hS1 := (show ((w9.cell? ⟨w6.heap.size, 0, none⟩ = some (.int .i64 a0_0) ∧ w9.cell? ⟨w6.heap.size, 1, none⟩ = some (.slice (some ⟨g6, 0, none⟩) x0_1.length x0_1.length)) ∧ (w9.cell? ⟨w.heap.size, 0, none⟩ = some (.int .i64 a0_0) ∧ w9.cell? ⟨w.heap.size, 1, none⟩ = some (.slice A0_1 x0_1.length C0_1))) ∧ Below w8.heap.size w8 w9 from ⟨⟨⟨cellK hS0.1.1.1 hd9, cellK hS0.1.1.2 hd9⟩, cellK hS0.1.2.1 hd9, cellK hS0.1.2.2 hd9⟩, hS0.2.trans (hd9.mono hS0.2.size)⟩)
      refine hK _ _ hS1 ?_
      clear hK K
      refine gOne 3 rfl (by kernel_rfl) (by kernel_rfl) (fun K hK => ?_)
      go_simp
      go_at_call 18
      (with_reducible refine (eqMine_same a0_0 (some ⟨g6, 0, none⟩) (some ⟨g9, 0, none⟩) x0_1.length x0_1.length x0_1 _ (AA6.out.below (hb8_1.trans (hS1.2.mono hb8_1.size))) HB9.out.awr HL0.out).mono ?_)
      rintro e w10 ⟨rfl, hd10⟩
      try go_simp
      have hS2 := (show ((w10.cell? ⟨w6.heap.size, 0, none⟩ = some (.int .i64 a0_0) ∧ w10.cell? ⟨w6.heap.size, 1, none⟩ = some (.slice (some ⟨g6, 0, none⟩) x0_1.length x0_1.length)) ∧ (w10.cell? ⟨w.heap.size, 0, none⟩ = some (.int .i64 a0_0) ∧ w10.cell? ⟨w.heap.size, 1, none⟩ = some (.slice A0_1 x0_1.length C0_1))) ∧ Below w8.heap.size w8 w10 from ⟨⟨⟨cellK hS1.1.1.1 hd10, cellK hS1.1.1.2 hd10⟩, cellK hS1.1.2.1 hd10, cellK hS1.1.2.2 hd10⟩, hS1.2.trans (hd10.mono hS1.2.size)⟩)
      refine hK _ _ hS2 ?_
      clear hK K
      refine gTake 4 (v := ?_) rfl (by kernel_rfl) (by kernel_rfl) (by kernel_rfl) (fun _ _ _ h => h) (by kernel_rfl) ?_ hS2 ?_
      rotate_left
      · (intro W hW; clear hW; go_simp; try with_reducible rfl)
      refine wpAnyH_done (by kernel_rfl) ?_ _
      go_simp
      clear hd9 hd10
      have hd10 := hS2.2
      clear hS0 hS1 hS2 hS00
      have hb10 := hb8.trans (hd10.mono hb8.size)
      obtain ⟨hc10, hf10⟩ := bcell hb10
      have hz10 : w.heap.size < w10.heap.size := Nat.lt_of_lt_of_le (by first | (simp; done) | (simp; omega)) hb10.size
      have hb10_1 := hb8_1.trans (hd10.mono hb8_1.size)
      obtain ⟨hc10_1, hf10_1⟩ := bcell hb10_1
      have hz10_1 : w6.heap.size < w10.heap.size := Nat.lt_of_lt_of_le (by first | (simp; done) | (simp; omega)) hb10_1.size
      have hb10_2 := hb8_2.trans (hd10.mono hb8_2.size)
      obtain ⟨hc10_2, hf10_2⟩ := bcell hb10_2
      have hz10_2 : w7.heap.size < w10.heap.size := Nat.lt_of_lt_of_le (by first | (simp; done) | (simp; omega)) hb10_2.size
      have hq10 : w.heap.size + 1 < w10.heap.size := Nat.lt_of_lt_of_le (show w.heap.size + 1 < w.heap.size + 1 + 1 by omega) (by have := hb10.size; simp at this; omega)
      have e10a : w10.cell? ⟨w.heap.size + 1, 0, none⟩ = some (.int .i64 a1_0) := cellK HA1.out.1 hb10
      have e10b : w10.cell? ⟨w.heap.size + 1, 1, none⟩ = some (.slice A1_1 x1_1.length C1_1) := cellK HA1.out.2 hb10
      have e10c : w10.cell? ⟨w.heap.size, 0, none⟩ = some (.int .i64 a0_0) := cellK HA0.out.1 hb10
      have e10d : w10.cell? ⟨w.heap.size, 1, none⟩ = some (.slice A0_1 x0_1.length C0_1) := cellK HA0.out.2 hb10
      clear hd10
      go_wp2_with fail
      have hS00 : ((w10.cell? ⟨w7.heap.size, 0, none⟩ = some (.int .i64 a1_0) ∧ w10.cell? ⟨w7.heap.size, 1, none⟩ = some (.slice (some ⟨g7, 0, none⟩) x1_1.length x1_1.length)) ∧ (w10.cell? ⟨w.heap.size + 1, 0, none⟩ = some (.int .i64 a1_0) ∧ w10.cell? ⟨w.heap.size + 1, 1, none⟩ = some (.slice A1_1 x1_1.length C1_1))) ∧ Below w10.heap.size w10 w10 := ⟨⟨⟨by simp [hc10_2, hz10_2], by simp [hc10_2, hz10_2]⟩, e10a, e10b⟩, Below.refl _ _⟩
      refine wp_region_held (S := fun w' => ((w'.cell? ⟨w7.heap.size, 0, none⟩ = some (.int .i64 a1_0) ∧ w'.cell? ⟨w7.heap.size, 1, none⟩ = some (.slice (some ⟨g7, 0, none⟩) x1_1.length x1_1.length)) ∧ (w'.cell? ⟨w.heap.size + 1, 0, none⟩ = some (.int .i64 a1_0) ∧ w'.cell? ⟨w.heap.size + 1, 1, none⟩ = some (.slice A1_1 x1_1.length C1_1))) ∧ Below w10.heap.size w10 w') (by kernel_rfl) ?_
      try (change wpAnyH _ _ _ _ _ _ _ _ (World.drew _))
      have hS0 := (show ((w10.drew.cell? ⟨w7.heap.size, 0, none⟩ = some (.int .i64 a1_0) ∧ w10.drew.cell? ⟨w7.heap.size, 1, none⟩ = some (.slice (some ⟨g7, 0, none⟩) x1_1.length x1_1.length)) ∧ (w10.drew.cell? ⟨w.heap.size + 1, 0, none⟩ = some (.int .i64 a1_0) ∧ w10.drew.cell? ⟨w.heap.size + 1, 1, none⟩ = some (.slice A1_1 x1_1.length C1_1))) ∧ Below w10.heap.size w10 w10.drew from ⟨⟨⟨cellK hS00.1.1.1 (Below.drew (Below.refl _ _)), cellK hS00.1.1.2 (Below.drew (Below.refl _ _))⟩, cellK hS00.1.2.1 (Below.drew (Below.refl _ _)), cellK hS00.1.2.2 (Below.drew (Below.refl _ _))⟩, (Below.drew (Below.refl _ _))⟩)
      refine gTake 0 (v := ?_) rfl (by kernel_rfl) (by kernel_rfl) (by kernel_rfl) (fun _ _ _ h => h) (by kernel_rfl) ?_ hS0 ?_
      rotate_left
      · (intro W hW; have q0 := hW.1.1.1; have q1 := hW.1.1.2; have q2 := hW.1.2.1; have q3 := hW.1.2.2; clear hW; go_simp; try with_reducible rfl)
      refine gTake 1 (v := ?_) rfl (by kernel_rfl) (by kernel_rfl) (by kernel_rfl) (fun _ _ _ h => h) (by kernel_rfl) ?_ hS0 ?_
      rotate_left
      · (intro W hW; have q0 := hW.1.1.1; have q1 := hW.1.1.2; have q2 := hW.1.2.1; have q3 := hW.1.2.2; clear hW; go_simp; try with_reducible rfl)
      refine gOne 2 rfl (by kernel_rfl) (by kernel_rfl) (fun K hK => ?_)
      go_simp
      go_at_call 16
      (with_reducible refine (toMine_any a1_0 A1_1 C1_1 x1_1 _ (R1.out.below (hb10.trans (hS0.2.mono hb10.size))) HL1.out).mono ?_)
      rintro e w11 ⟨g11, rfl, hB11, hg11, hd11⟩
      have HB11 := Lib.hid hB11
      clear hB11 hg11
      try go_simp
      have hS1 := (show ((w11.cell? ⟨w7.heap.size, 0, none⟩ = some (.int .i64 a1_0) ∧ w11.cell? ⟨w7.heap.size, 1, none⟩ = some (.slice (some ⟨g7, 0, none⟩) x1_1.length x1_1.length)) ∧ (w11.cell? ⟨w.heap.size + 1, 0, none⟩ = some (.int .i64 a1_0) ∧ w11.cell? ⟨w.heap.size + 1, 1, none⟩ = some (.slice A1_1 x1_1.length C1_1))) ∧ Below w10.heap.size w10 w11 from ⟨⟨⟨cellK hS0.1.1.1 hd11, cellK hS0.1.1.2 hd11⟩, cellK hS0.1.2.1 hd11, cellK hS0.1.2.2 hd11⟩, hS0.2.trans (hd11.mono hS0.2.size)⟩)
      refine hK _ _ hS1 ?_
      clear hK K
      refine gOne 3 rfl (by kernel_rfl) (by kernel_rfl) (fun K hK => ?_)
      go_simp
      go_at_call 18
      (with_reducible refine (eqMine_same a1_0 (some ⟨g7, 0, none⟩) (some ⟨g11, 0, none⟩) x1_1.length x1_1.length x1_1 _ (AA7.out.below (hb10_2.trans (hS1.2.mono hb10_2.size))) HB11.out.awr HL1.out).mono ?_)
      rintro e w12 ⟨rfl, hd12⟩
      try go_simp
      have hS2 := (show ((w12.cell? ⟨w7.heap.size, 0, none⟩ = some (.int .i64 a1_0) ∧ w12.cell? ⟨w7.heap.size, 1, none⟩ = some (.slice (some ⟨g7, 0, none⟩) x1_1.length x1_1.length)) ∧ (w12.cell? ⟨w.heap.size + 1, 0, none⟩ = some (.int .i64 a1_0) ∧ w12.cell? ⟨w.heap.size + 1, 1, none⟩ = some (.slice A1_1 x1_1.length C1_1))) ∧ Below w10.heap.size w10 w12 from ⟨⟨⟨cellK hS1.1.1.1 hd12, cellK hS1.1.1.2 hd12⟩, cellK hS1.1.2.1 hd12, cellK hS1.1.2.2 hd12⟩, hS1.2.trans (hd12.mono hS1.2.size)⟩)
      refine hK _ _ hS2 ?_
      clear hK K
      refine gTake 4 (v := ?_) rfl (by kernel_rfl) (by kernel_rfl) (by kernel_rfl) (fun _ _ _ h => h) (by kernel_rfl) ?_ hS2 ?_
      rotate_left
      · (intro W hW; clear hW; go_simp; try with_reducible rfl)
      refine wpAnyH_done (by kernel_rfl) ?_ _
      go_simp
      clear hd11 hd12
      have hd12 := hS2.2
      clear hS0 hS1 hS2 hS00
      have hb12 := hb10.trans (hd12.mono hb10.size)
      obtain ⟨hc12, hf12⟩ := bcell hb12
      have hz12 : w.heap.size < w12.heap.size := Nat.lt_of_lt_of_le (by first | (simp; done) | (simp; omega)) hb12.size
      have hb12_1 := hb10_1.trans (hd12.mono hb10_1.size)
      obtain ⟨hc12_1, hf12_1⟩ := bcell hb12_1
      have hz12_1 : w6.heap.size < w12.heap.size := Nat.lt_of_lt_of_le (by first | (simp; done) | (simp; omega)) hb12_1.size
      have hb12_2 := hb10_2.trans (hd12.mono hb10_2.size)
      obtain ⟨hc12_2, hf12_2⟩ := bcell hb12_2
      have hz12_2 : w7.heap.size < w12.heap.size := Nat.lt_of_lt_of_le (by first | (simp; done) | (simp; omega)) hb12_2.size
      have hq12 : w.heap.size + 1 < w12.heap.size := Nat.lt_of_lt_of_le (show w.heap.size + 1 < w.heap.size + 1 + 1 by omega) (by have := hb12.size; simp at this; omega)
      have e12a : w12.cell? ⟨w.heap.size + 1, 0, none⟩ = some (.int .i64 a1_0) := cellK HA1.out.1 hb12
      have e12b : w12.cell? ⟨w.heap.size + 1, 1, none⟩ = some (.slice A1_1 x1_1.length C1_1) := cellK HA1.out.2 hb12
      have e12c : w12.cell? ⟨w.heap.size, 0, none⟩ = some (.int .i64 a0_0) := cellK HA0.out.1 hb12
      have e12d : w12.cell? ⟨w.heap.size, 1, none⟩ = some (.slice A0_1 x0_1.length C0_1) := cellK HA0.out.2 hb12
      clear hd12
      go_wp2
      go_ret
      exact ⟨rfl, HBX.out.trans (hb12.mono HBX.out.size)⟩

set_option maxRecDepth 100000 in
theorem contract (H : Type) (enc : TypeId × Value → H) (W : World) (base : Nat) (args : Array Value) (ds gs : List (DataW H)) (before : List MemPlace)
    (hval : ∀ (j : Nat) t v, Try.f4.params[j]? = some t → args[j]? = some v → Value.okWide Try.prog W .any base t v)
    (hW : DataW.Whole enc Try.prog Try.f4.params.toList Rows.fnExactSameMineSpec.vars false W args.toList ds gs before) :
    Calls Try.prog 4 args W fun e W' => ∃ v, e = .returned v ∧ Rows.fnExactSameMineSpec.post enc Try.prog Try.f4 false true false false W args v W' := by
  have hW' := hW
  obtain ⟨p, q, hA0, hV, rfl, hfz, hnd⟩ := hW
  have hA : DataW.TrodAll enc Try.prog W 0 (fun _ => true) true Try.f4.params.toList args.toList ds p := hA0
  rw [Try.params4] at hA hval
  obtain ⟨v0, vs0, d0, ds0, p0, q0, hargs, rfl, rfl, h0, r0⟩ := trodAll_cons hA
  obtain ⟨v1, vs1, d1, ds1, p1, q1, rfl, rfl, rfl, h1, r1⟩ := trodAll_cons r0
  obtain ⟨rfl, rfl, rfl⟩ := trodAll_nil r1
  obtain rfl : args = #[v0, v1] := by cases args; simp_all
  obtain ⟨rfl, rfl⟩ := trodVars_none hV
  have k0 := h0
  have lt0 : ∀ x ∈ p0, x.block < W.heap.size := by obtain ⟨m, hm⟩ := k0; exact DataW.trod_lt m _ _ _ hm
  obtain ⟨l0, rfl, ll0, hf0⟩ := open_fields Try.underlying24 (by kernel_rfl) (by kernel_rfl) (hval 0 24 v0 rfl rfl) h0
  obtain ⟨c0_0, n0_0, y0_0, e0_0, t0_0⟩ := hf0 0 _ rfl
  obtain ⟨a0_0, q0_0, _, w0_0⟩ := DataW.trod_int Try.underlying2 t0_0
  obtain ⟨c0_1, n0_1, y0_1, e0_1, t0_1⟩ := hf0 1 _ rfl
  obtain ⟨A0_1, C0_1, x0_1, q0_1, l0_1, r0_1, f0_1⟩ := open_aws t0_1
  obtain rfl := List.cons.inj q0_0 |>.1
  obtain rfl := List.cons.inj q0_1 |>.1
  obtain rfl : l0 = [.int .i64 a0_0, .slice A0_1 x0_1.length C0_1] := by
    match l0, ll0, e0_0, e0_1 with
    | [x0, x1], _, z0, z1 => simp at z0 z1; simp [z0, z1]
  have k1 := h1
  have lt1 : ∀ x ∈ p1, x.block < W.heap.size := by obtain ⟨m, hm⟩ := k1; exact DataW.trod_lt m _ _ _ hm
  obtain ⟨l1, rfl, ll1, hf1⟩ := open_fields Try.underlying24 (by kernel_rfl) (by kernel_rfl) (hval 1 24 v1 rfl rfl) h1
  obtain ⟨c1_0, n1_0, y1_0, e1_0, t1_0⟩ := hf1 0 _ rfl
  obtain ⟨a1_0, q1_0, _, w1_0⟩ := DataW.trod_int Try.underlying2 t1_0
  obtain ⟨c1_1, n1_1, y1_1, e1_1, t1_1⟩ := hf1 1 _ rfl
  obtain ⟨A1_1, C1_1, x1_1, q1_1, l1_1, r1_1, f1_1⟩ := open_aws t1_1
  obtain rfl := List.cons.inj q1_0 |>.1
  obtain rfl := List.cons.inj q1_1 |>.1
  obtain rfl : l1 = [.int .i64 a1_0, .slice A1_1 x1_1.length C1_1] := by
    match l1, ll1, e1_0, e1_1 with
    | [x0, x1], _, z0, z1 => simp at z0 z1; simp [z0, z1]
  clear hA0
  refine (walk W a0_0 w0_0 A0_1 C0_1 x0_1 l0_1 r0_1 f0_1 a1_0 w1_0 A1_1 C1_1 x1_1 l1_1 r1_1 f1_1).mono fun e W' ⟨he, bel⟩ => ?_
  subst he
  exact ⟨_, rfl, _, _, _, [], _, [], hW', trodAll_mk1 (shut_bool Try.underlying4 _), (trodAll_cons_mk (Below.trod laidOut (by kernel_rfl) (of_decide_eq_true (by kernel_rfl)) k0 bel lt0) (trodAll_cons_mk (Below.trod laidOut (by kernel_rfl) (of_decide_eq_true (by kernel_rfl)) k1 bel lt1) trodAll_mk0)), rfl, bel.frame _, fun h => by cases h⟩

set_option maxRecDepth 100000 in
theorem lifted (os : Os) (started : os.Started) (H : Type) (enc : TypeId × Value → H) :
    ReturnsInHanded {} Try.checked os 4 .any (Rows.fnExactSameMineSpec.pre6 enc Try.prog Try.f4 Rows.fnExactSameMineRow.domain false) (Rows.fnExactSameMineSpec.post enc Try.prog Try.f4 false true false false) := by
  refine returnsInHanded_of_change (C := Try.checked) own started (by kernel_rfl) Try.func4
    (ChangeSpec.witness6 (enc := enc) (C := Try.checked) false ⟨#[], #[.agg #[.int .i64 0, .slice none 0 0], .agg #[.int .i64 0, .slice none 0 0]], []⟩ 8 (by kernel_rfl) (by kernel_rfl) (by kernel_rfl) (by kernel_rfl)) ?_
  intro W base args ds gs before hval hW hcnd _
  exact contract H enc W base args ds gs before hval hW

theorem proved : Rows.FnExactSameMineSaid :=
  OpenClaim.holds_of_wide 4 Try.f4 rfl rfl rfl rfl rfl rfl rfl ⟨rfl, rfl, rfl, rfl, rfl⟩ rfl rfl rfl rfl rfl (by kernel_rfl) Try.func4 (by kernel_rfl)
    (of_decide_eq_true (by kernel_rfl)) (by unfold Func.isWrapper; first | (rw [if_pos (by decide +kernel)]; kernel_rfl) | (rw [if_neg (by decide +kernel)]; exact ⟨rfl, rfl⟩))
    (fun os started H enc _ => lifted os started H enc)
#print axioms proved
end Go.Proofs.Ytkbgfajkcdjjiaa.fnExactSameMine
