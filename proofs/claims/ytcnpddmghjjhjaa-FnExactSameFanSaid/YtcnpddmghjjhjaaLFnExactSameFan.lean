/-
  PROVED: for every input the function laws.FnExactSameFan returns true and leaves its arguments as they were. Conditions: none.
-/
import Derived.Test.YtcnpddmghjjhjaaRows
import Derived.Test.YtcnpddmghjjhjaaVs
import Derived.WalkKit
import Derived.ProofKit
import Derived.OpenShut
import Derived.ShutString
import Derived.ChangeOld
import Derived.Below
import Derived.Carry
import Derived.Lib.SmallJoins
import Derived.ChangeArms
namespace Go.Proofs.Ytcnpddmghjjhjaa.fnExactSameFan
open Go.ChangeShapes Go.WideShapes Go.ChangeAt Go.RowKit
open Go.ChangeMaps (open_string shut_string)
open Go.Joins Go.Deep
set_option linter.unusedVariables false
set_option linter.unusedSimpArgs false

theorem own : ownKnob Try.prog.godebug = none := by kernel_rfl
theorem laidOut : laidOutB Try.prog = true := by kernel_rfl
section
variable {H : Type} {enc : TypeId × Value → H} {P : Program} {w : World} {base : Nat} {spare : Nat → Bool} {held : Bool}
theorem open_fields {r : Reach} {b0 : Nat} {t : TypeId} {fs : Array Field} {v : Value} {d : DataW H} {p : List MemPlace} (hs : P.underlying t = some (.struct fs)) (hone : oneCellFields P fs = true) (hC : P.cellsOf t = fs.size)
    (hv : Value.okWide P w r b0 t v) (h : DataW.Trod enc P w base spare held t v d p) :
    ∃ l : List Value, v = .agg ⟨l⟩ ∧ l.length = fs.size ∧ ∀ (j : Nat) (f : Field), fs[j]? = some f → ∃ (c : Value) (n : Nat) (y : DataW H × List MemPlace), l[j]? = some c ∧ DataW.trod enc P w base spare held n f.type [c] = some y := by
  obtain ⟨cs, rfl, hsz⟩ := okWide_struct hs hv
  obtain ⟨l⟩ := cs
  obtain ⟨fuel, hf⟩ := h
  obtain ⟨xs, n, _, _, _, hlen, hg⟩ := DataW.trod_struct hs hf
  have hl : l.length = fs.size := by simpa using hsz.trans hC
  refine ⟨l, rfl, hl, fun j f hj => ?_⟩
  obtain ⟨o, k⟩ := hone_of hone j f hj
  have hjf : j < fs.size := (Array.getElem?_eq_some_iff.1 hj).1
  have hjl : j < l.length := by omega
  have h1 := hg j f hj
  rw [o, k] at h1
  have e : (l.drop j).take 1 = [l[j]] := by
    rw [List.drop_eq_getElem_cons hjl]; rfl
  replace h1 : DataW.trod enc P w base spare held n f.type ((l.drop j).take 1) = xs[j]? := by simpa [Value.cells] using h1
  rw [e] at h1
  have hx : xs[j]? = some (xs[j]'(by omega)) := List.getElem?_eq_getElem (by omega)
  exact ⟨l[j], _, _, List.getElem?_eq_getElem hjl, h1.trans hx⟩
end
set_option maxHeartbeats 4000000 in

theorem walk (w : World) (a0_0 : ByteArray) (w0_0 : a0_0.size ≤ maxLen) (a0_1 : Int) (w0_1 : (Lit.int .i64 a0_1).wf = true) (A0_2 : Option Addr) (C0_2 : Nat) (x0_2 : List (List Int)) (l0_2 : x0_2.length ≤ maxLen) (r0_2 : RowsR w A0_2 x0_2) (f0_2 : rowsFit x0_2) (a1_0 : ByteArray) (w1_0 : a1_0.size ≤ maxLen) (a1_1 : Int) (w1_1 : (Lit.int .i64 a1_1).wf = true) (A1_2 : Option Addr) (C1_2 : Nat) (x1_2 : List (List Int)) (l1_2 : x1_2.length ≤ maxLen) (r1_2 : RowsR w A1_2 x1_2) (f1_2 : rowsFit x1_2) :
    Calls Try.prog 5 #[.agg #[.string a0_0, .int .i64 a0_1, .slice A0_2 x0_2.length C0_2], .agg #[.string a1_0, .int .i64 a1_1, .slice A1_2 x1_2.length C1_2]] w fun e w' => e = .returned (.bool true) ∧ Below w.heap.size w w' := by
  have SS0 := Lib.hid w0_0
  have FF0 := Lib.hid f0_2
  have LL0 := Lib.hid l0_2
  have SS1 := Lib.hid w1_0
  have FF1 := Lib.hid f1_2
  have LL1 := Lib.hid l1_2
  by_cases hz : szF 1048576 a0_0 x0_2 < 0
  · skip
    go_enter Try.func5, Try.ntmps5
    go_wp2_with fail
    obtain ⟨w1, hL1⟩ : ∃ x, x = ((w.alloc (.cells #[.string a0_0, .int .i64 a0_1, .slice A0_2 x0_2.length C0_2] 24)).alloc (.cells #[.string a1_0, .int .i64 a1_1, .slice A1_2 x1_2.length C1_2] 24)) := ⟨_, rfl⟩
    have hd1 : Below w.heap.size w w1 := hL1 ▸ (below_box _ _).alloc (by simp) _
    rw [← hL1]
    obtain ⟨p0, hp0⟩ : ∃ p, p = w.heap.size := ⟨_, rfl⟩
    obtain ⟨p1, hp1⟩ : ∃ p, p = w.heap.size + 1 := ⟨_, rfl⟩
    rw [← hp1, ← hp0]
    have HB_1 := Lib.hid (show Below w.heap.size w w1 from hd1)
    have B0c0_1 : w1.cell? ⟨p0, 0, none⟩ = some (.string a0_0) := (by rw [hL1, hp0]; simp)
    have B0c1_1 : w1.cell? ⟨p0, 1, none⟩ = some (.int .i64 a0_1) := (by rw [hL1, hp0]; simp)
    have B0c2_1 : w1.cell? ⟨p0, 2, none⟩ = some (.slice A0_2 x0_2.length C0_2) := (by rw [hL1, hp0]; simp)
    have R0_1 := Lib.hid (show RowsR w1 A0_2 x0_2 from r0_2.below hd1)
    have B1c0_1 : w1.cell? ⟨p1, 0, none⟩ = some (.string a1_0) := (by rw [hL1, hp1]; simp)
    have B1c1_1 : w1.cell? ⟨p1, 1, none⟩ = some (.int .i64 a1_1) := (by rw [hL1, hp1]; simp)
    have B1c2_1 : w1.cell? ⟨p1, 2, none⟩ = some (.slice A1_2 x1_2.length C1_2) := (by rw [hL1, hp1]; simp)
    have R1_1 := Lib.hid (show RowsR w1 A1_2 x1_2 from r1_2.below hd1)
    clear hd1 hL1 r0_2 hp0 r1_2 hp1
    go_wp2_with fail
    (with_reducible refine (szFan_any a0_0 a0_1 A0_2 C0_2 x0_2 (1048576) _ SS0.out R0_1.out FF0.out LL0.out (by omega)).mono ?_)
    rintro e w2 ⟨rfl, hd2⟩
    have HB_2 := Lib.hid (show Below w.heap.size w w2 from HB_1.out.trans (hd2.mono HB_1.out.size))
    have B0c0_2 : w2.cell? ⟨p0, 0, none⟩ = some (.string a0_0) := cellK B0c0_1 hd2
    have B0c1_2 : w2.cell? ⟨p0, 1, none⟩ = some (.int .i64 a0_1) := cellK B0c1_1 hd2
    have B0c2_2 : w2.cell? ⟨p0, 2, none⟩ = some (.slice A0_2 x0_2.length C0_2) := cellK B0c2_1 hd2
    have R0_2 := Lib.hid (show RowsR w2 A0_2 x0_2 from RowsR.below R0_1.out hd2)
    have B1c0_2 : w2.cell? ⟨p1, 0, none⟩ = some (.string a1_0) := cellK B1c0_1 hd2
    have B1c1_2 : w2.cell? ⟨p1, 1, none⟩ = some (.int .i64 a1_1) := cellK B1c1_1 hd2
    have B1c2_2 : w2.cell? ⟨p1, 2, none⟩ = some (.slice A1_2 x1_2.length C1_2) := cellK B1c2_1 hd2
    have R1_2 := Lib.hid (show RowsR w2 A1_2 x1_2 from RowsR.below R1_1.out hd2)
    clear B0c0_1 B0c1_1 B0c2_1 R0_1 B1c0_1 B1c1_1 B1c2_1 R1_1
    clear hd2
    go_wp2
    go_ret
    exact ⟨rfl, HB_2.out⟩
  · have hle := szF_le (left := 1048576) (s := a0_0) (xs := x0_2) (by omega)
    have hfb0 := szF_bd (left := 1048576) (s := a0_0) (xs := x0_2) (by omega) (by omega)
    have HL0 := Lib.hid (And.intro (show x0_2.length ≤ 1048576 by have := hfb0.2.1; omega) (show ∀ r ∈ x0_2, r.length ≤ 1048576 from fun r hr => by have := hfb0.2.2 r hr; omega))
    have HS0 := Lib.hid (show a0_0.size ≤ 1048576 by have := hfb0.1; omega)
    clear hfb0
    obtain ⟨lf, hlf⟩ : ∃ lf, szF 1048576 a0_0 x0_2 = lf := ⟨_, rfl⟩
    have HLF := Lib.hid hlf
    have hl0 : 0 ≤ lf ∧ lf ≤ 1048576 := by rw [hlf] at hz hle; omega
    clear hlf hz hle
    obtain ⟨hl1, hl2⟩ := id hl0
    have hl3 : ¬ (lf < 0) := by omega
    by_cases hz2 : szF lf a1_0 x1_2 < 0
    · skip
      go_enter Try.func5, Try.ntmps5
      go_wp2_with fail
      obtain ⟨w1, hL1⟩ : ∃ x, x = ((w.alloc (.cells #[.string a0_0, .int .i64 a0_1, .slice A0_2 x0_2.length C0_2] 24)).alloc (.cells #[.string a1_0, .int .i64 a1_1, .slice A1_2 x1_2.length C1_2] 24)) := ⟨_, rfl⟩
      have hd1 : Below w.heap.size w w1 := hL1 ▸ (below_box _ _).alloc (by simp) _
      rw [← hL1]
      obtain ⟨p0, hp0⟩ : ∃ p, p = w.heap.size := ⟨_, rfl⟩
      obtain ⟨p1, hp1⟩ : ∃ p, p = w.heap.size + 1 := ⟨_, rfl⟩
      rw [← hp1, ← hp0]
      have HB_1 := Lib.hid (show Below w.heap.size w w1 from hd1)
      have B0c0_1 : w1.cell? ⟨p0, 0, none⟩ = some (.string a0_0) := (by rw [hL1, hp0]; simp)
      have B0c1_1 : w1.cell? ⟨p0, 1, none⟩ = some (.int .i64 a0_1) := (by rw [hL1, hp0]; simp)
      have B0c2_1 : w1.cell? ⟨p0, 2, none⟩ = some (.slice A0_2 x0_2.length C0_2) := (by rw [hL1, hp0]; simp)
      have R0_1 := Lib.hid (show RowsR w1 A0_2 x0_2 from r0_2.below hd1)
      have B1c0_1 : w1.cell? ⟨p1, 0, none⟩ = some (.string a1_0) := (by rw [hL1, hp1]; simp)
      have B1c1_1 : w1.cell? ⟨p1, 1, none⟩ = some (.int .i64 a1_1) := (by rw [hL1, hp1]; simp)
      have B1c2_1 : w1.cell? ⟨p1, 2, none⟩ = some (.slice A1_2 x1_2.length C1_2) := (by rw [hL1, hp1]; simp)
      have R1_1 := Lib.hid (show RowsR w1 A1_2 x1_2 from r1_2.below hd1)
      clear hd1 hL1 r0_2 hp0 r1_2 hp1
      go_wp2_with fail
      (with_reducible refine (szFan_any a0_0 a0_1 A0_2 C0_2 x0_2 (1048576) _ SS0.out R0_1.out FF0.out LL0.out (by omega)).mono ?_)
      rintro e w2 ⟨rfl, hd2⟩
      have HB_2 := Lib.hid (show Below w.heap.size w w2 from HB_1.out.trans (hd2.mono HB_1.out.size))
      have B0c0_2 : w2.cell? ⟨p0, 0, none⟩ = some (.string a0_0) := cellK B0c0_1 hd2
      have B0c1_2 : w2.cell? ⟨p0, 1, none⟩ = some (.int .i64 a0_1) := cellK B0c1_1 hd2
      have B0c2_2 : w2.cell? ⟨p0, 2, none⟩ = some (.slice A0_2 x0_2.length C0_2) := cellK B0c2_1 hd2
      have R0_2 := Lib.hid (show RowsR w2 A0_2 x0_2 from RowsR.below R0_1.out hd2)
      have B1c0_2 : w2.cell? ⟨p1, 0, none⟩ = some (.string a1_0) := cellK B1c0_1 hd2
      have B1c1_2 : w2.cell? ⟨p1, 1, none⟩ = some (.int .i64 a1_1) := cellK B1c1_1 hd2
      have B1c2_2 : w2.cell? ⟨p1, 2, none⟩ = some (.slice A1_2 x1_2.length C1_2) := cellK B1c2_1 hd2
      have R1_2 := Lib.hid (show RowsR w2 A1_2 x1_2 from RowsR.below R1_1.out hd2)
      clear B0c0_1 B0c1_1 B0c2_1 R0_1 B1c0_1 B1c1_1 B1c2_1 R1_1
      clear hd2
      rw [HLF.out]
      go_wp2_with fail
      (with_reducible refine (szFan_any a1_0 a1_1 A1_2 C1_2 x1_2 (lf) _ SS1.out R1_2.out FF1.out LL1.out hl0).mono ?_)
      rintro e w3 ⟨rfl, hd3⟩
      have HB_3 := Lib.hid (show Below w.heap.size w w3 from HB_2.out.trans (hd3.mono HB_2.out.size))
      have B0c0_3 : w3.cell? ⟨p0, 0, none⟩ = some (.string a0_0) := cellK B0c0_2 hd3
      have B0c1_3 : w3.cell? ⟨p0, 1, none⟩ = some (.int .i64 a0_1) := cellK B0c1_2 hd3
      have B0c2_3 : w3.cell? ⟨p0, 2, none⟩ = some (.slice A0_2 x0_2.length C0_2) := cellK B0c2_2 hd3
      have R0_3 := Lib.hid (show RowsR w3 A0_2 x0_2 from RowsR.below R0_2.out hd3)
      have B1c0_3 : w3.cell? ⟨p1, 0, none⟩ = some (.string a1_0) := cellK B1c0_2 hd3
      have B1c1_3 : w3.cell? ⟨p1, 1, none⟩ = some (.int .i64 a1_1) := cellK B1c1_2 hd3
      have B1c2_3 : w3.cell? ⟨p1, 2, none⟩ = some (.slice A1_2 x1_2.length C1_2) := cellK B1c2_2 hd3
      have R1_3 := Lib.hid (show RowsR w3 A1_2 x1_2 from RowsR.below R1_2.out hd3)
      clear B0c0_2 B0c1_2 B0c2_2 R0_2 B1c0_2 B1c1_2 B1c2_2 R1_2
      clear hd3
      go_wp2
      go_ret
      exact ⟨rfl, HB_3.out⟩
    · skip
      have hfb1 := szF_bd (left := lf) (s := a1_0) (xs := x1_2) (by omega) (by omega)
      have HL1 := Lib.hid (And.intro (show x1_2.length ≤ 1048576 by have := hfb1.2.1; omega) (show ∀ r ∈ x1_2, r.length ≤ 1048576 from fun r hr => by have := hfb1.2.2 r hr; omega))
      have HS1 := Lib.hid (show a1_0.size ≤ 1048576 by have := hfb1.1; omega)
      clear hfb1
      go_enter Try.func5, Try.ntmps5
      go_wp2_with fail
      obtain ⟨w1, hL1⟩ : ∃ x, x = ((w.alloc (.cells #[.string a0_0, .int .i64 a0_1, .slice A0_2 x0_2.length C0_2] 24)).alloc (.cells #[.string a1_0, .int .i64 a1_1, .slice A1_2 x1_2.length C1_2] 24)) := ⟨_, rfl⟩
      have hd1 : Below w.heap.size w w1 := hL1 ▸ (below_box _ _).alloc (by simp) _
      rw [← hL1]
      obtain ⟨p0, hp0⟩ : ∃ p, p = w.heap.size := ⟨_, rfl⟩
      obtain ⟨p1, hp1⟩ : ∃ p, p = w.heap.size + 1 := ⟨_, rfl⟩
      rw [← hp1, ← hp0]
      have HB_1 := Lib.hid (show Below w.heap.size w w1 from hd1)
      have B0c0_1 : w1.cell? ⟨p0, 0, none⟩ = some (.string a0_0) := (by rw [hL1, hp0]; simp)
      have B0c1_1 : w1.cell? ⟨p0, 1, none⟩ = some (.int .i64 a0_1) := (by rw [hL1, hp0]; simp)
      have B0c2_1 : w1.cell? ⟨p0, 2, none⟩ = some (.slice A0_2 x0_2.length C0_2) := (by rw [hL1, hp0]; simp)
      have R0_1 := Lib.hid (show RowsR w1 A0_2 x0_2 from r0_2.below hd1)
      have B1c0_1 : w1.cell? ⟨p1, 0, none⟩ = some (.string a1_0) := (by rw [hL1, hp1]; simp)
      have B1c1_1 : w1.cell? ⟨p1, 1, none⟩ = some (.int .i64 a1_1) := (by rw [hL1, hp1]; simp)
      have B1c2_1 : w1.cell? ⟨p1, 2, none⟩ = some (.slice A1_2 x1_2.length C1_2) := (by rw [hL1, hp1]; simp)
      have R1_1 := Lib.hid (show RowsR w1 A1_2 x1_2 from r1_2.below hd1)
      clear hd1 hL1 r0_2 hp0 r1_2 hp1
      go_wp2_with fail
      (with_reducible refine (szFan_any a0_0 a0_1 A0_2 C0_2 x0_2 (1048576) _ SS0.out R0_1.out FF0.out LL0.out (by omega)).mono ?_)
      rintro e w2 ⟨rfl, hd2⟩
      have HB_2 := Lib.hid (show Below w.heap.size w w2 from HB_1.out.trans (hd2.mono HB_1.out.size))
      have B0c0_2 : w2.cell? ⟨p0, 0, none⟩ = some (.string a0_0) := cellK B0c0_1 hd2
      have B0c1_2 : w2.cell? ⟨p0, 1, none⟩ = some (.int .i64 a0_1) := cellK B0c1_1 hd2
      have B0c2_2 : w2.cell? ⟨p0, 2, none⟩ = some (.slice A0_2 x0_2.length C0_2) := cellK B0c2_1 hd2
      have R0_2 := Lib.hid (show RowsR w2 A0_2 x0_2 from RowsR.below R0_1.out hd2)
      have B1c0_2 : w2.cell? ⟨p1, 0, none⟩ = some (.string a1_0) := cellK B1c0_1 hd2
      have B1c1_2 : w2.cell? ⟨p1, 1, none⟩ = some (.int .i64 a1_1) := cellK B1c1_1 hd2
      have B1c2_2 : w2.cell? ⟨p1, 2, none⟩ = some (.slice A1_2 x1_2.length C1_2) := cellK B1c2_1 hd2
      have R1_2 := Lib.hid (show RowsR w2 A1_2 x1_2 from RowsR.below R1_1.out hd2)
      clear B0c0_1 B0c1_1 B0c2_1 R0_1 B1c0_1 B1c1_1 B1c2_1 R1_1
      clear hd2
      rw [HLF.out]
      go_wp2_with fail
      (with_reducible refine (szFan_any a1_0 a1_1 A1_2 C1_2 x1_2 (lf) _ SS1.out R1_2.out FF1.out LL1.out hl0).mono ?_)
      rintro e w3 ⟨rfl, hd3⟩
      have HB_3 := Lib.hid (show Below w.heap.size w w3 from HB_2.out.trans (hd3.mono HB_2.out.size))
      have B0c0_3 : w3.cell? ⟨p0, 0, none⟩ = some (.string a0_0) := cellK B0c0_2 hd3
      have B0c1_3 : w3.cell? ⟨p0, 1, none⟩ = some (.int .i64 a0_1) := cellK B0c1_2 hd3
      have B0c2_3 : w3.cell? ⟨p0, 2, none⟩ = some (.slice A0_2 x0_2.length C0_2) := cellK B0c2_2 hd3
      have R0_3 := Lib.hid (show RowsR w3 A0_2 x0_2 from RowsR.below R0_2.out hd3)
      have B1c0_3 : w3.cell? ⟨p1, 0, none⟩ = some (.string a1_0) := cellK B1c0_2 hd3
      have B1c1_3 : w3.cell? ⟨p1, 1, none⟩ = some (.int .i64 a1_1) := cellK B1c1_2 hd3
      have B1c2_3 : w3.cell? ⟨p1, 2, none⟩ = some (.slice A1_2 x1_2.length C1_2) := cellK B1c2_2 hd3
      have R1_3 := Lib.hid (show RowsR w3 A1_2 x1_2 from RowsR.below R1_2.out hd3)
      clear B0c0_2 B0c1_2 B0c2_2 R0_2 B1c0_2 B1c1_2 B1c2_2 R1_2
      clear hd3
      go_wp2_with fail
      refine wp_region_held (S := fun w' => w'.cell? ⟨p0, 0, none⟩ = some (.string a0_0) ∧ w'.cell? ⟨p0, 1, none⟩ = some (.int .i64 a0_1) ∧ w'.cell? ⟨p0, 2, none⟩ = some (.slice A0_2 x0_2.length C0_2) ∧ w'.cell? ⟨p1, 0, none⟩ = some (.string a1_0) ∧ w'.cell? ⟨p1, 1, none⟩ = some (.int .i64 a1_1) ∧ w'.cell? ⟨p1, 2, none⟩ = some (.slice A1_2 x1_2.length C1_2) ∧ Below w3.heap.size w3 w') (by kernel_rfl) ?_
      try (change wpAnyH _ _ _ _ _ _ _ _ (World.drew _))
      have hS0 := (show w3.drew.cell? ⟨p0, 0, none⟩ = some (.string a0_0) ∧ w3.drew.cell? ⟨p0, 1, none⟩ = some (.int .i64 a0_1) ∧ w3.drew.cell? ⟨p0, 2, none⟩ = some (.slice A0_2 x0_2.length C0_2) ∧ w3.drew.cell? ⟨p1, 0, none⟩ = some (.string a1_0) ∧ w3.drew.cell? ⟨p1, 1, none⟩ = some (.int .i64 a1_1) ∧ w3.drew.cell? ⟨p1, 2, none⟩ = some (.slice A1_2 x1_2.length C1_2) ∧ Below w3.heap.size w3 w3.drew from ⟨B0c0_3, B0c1_3, B0c2_3, B1c0_3, B1c1_3, B1c2_3, Below.drew (Below.refl _ _)⟩)
      refine gTake 0 (v := ?_) rfl (by kernel_rfl) (by kernel_rfl) (by kernel_rfl) (fun _ _ _ h => h) (by kernel_rfl) ?_ hS0 ?_
      rotate_left
      · (intro W hW; have q0 := hW.1; have q1 := hW.2.1; have q2 := hW.2.2.1; have q3 := hW.2.2.2.1; have q4 := hW.2.2.2.2.1; have q5 := hW.2.2.2.2.2.1; clear hW; go_simp; try with_reducible rfl)
      refine gTake 2 (v := ?_) rfl (by kernel_rfl) (by kernel_rfl) (by kernel_rfl) (fun _ _ _ h => h) (by kernel_rfl) ?_ hS0 ?_
      rotate_left
      · (intro W hW; have q0 := hW.1; have q1 := hW.2.1; have q2 := hW.2.2.1; have q3 := hW.2.2.2.1; have q4 := hW.2.2.2.2.1; have q5 := hW.2.2.2.2.2.1; clear hW; go_simp; try with_reducible rfl)
      refine gOne 1 rfl (by kernel_rfl) (by kernel_rfl) (fun K hK => ?_)
      go_simp
      go_at_call 15
      (with_reducible refine (toFan_own a0_0 a0_1 A0_2 C0_2 x0_2 _ (R0_3.out.below hS0.2.2.2.2.2.2) HL0.out.1 HL0.out.2).mono ?_)
      rintro e wq0 ⟨gy0, rfl, hOy0, hdq0⟩
      have HOy0 := Lib.hid hOy0
      clear hOy0
      try go_simp
      have hS1 := (show wq0.cell? ⟨p0, 0, none⟩ = some (.string a0_0) ∧ wq0.cell? ⟨p0, 1, none⟩ = some (.int .i64 a0_1) ∧ wq0.cell? ⟨p0, 2, none⟩ = some (.slice A0_2 x0_2.length C0_2) ∧ wq0.cell? ⟨p1, 0, none⟩ = some (.string a1_0) ∧ wq0.cell? ⟨p1, 1, none⟩ = some (.int .i64 a1_1) ∧ wq0.cell? ⟨p1, 2, none⟩ = some (.slice A1_2 x1_2.length C1_2) ∧ Below w3.heap.size w3 wq0 from ⟨cellK hS0.1 hdq0, cellK hS0.2.1 hdq0, cellK hS0.2.2.1 hdq0, cellK hS0.2.2.2.1 hdq0, cellK hS0.2.2.2.2.1 hdq0, cellK hS0.2.2.2.2.2.1 hdq0, hS0.2.2.2.2.2.2.trans (hdq0.mono hS0.2.2.2.2.2.2.size)⟩)
      refine hK _ _ hS1 ?_
      clear hK K
      refine gOne 3 rfl (by kernel_rfl) (by kernel_rfl) (fun K hK => ?_)
      go_simp
      go_at_call 15
      (with_reducible refine (toFan_own a1_0 a1_1 A1_2 C1_2 x1_2 _ (R1_3.out.below hS1.2.2.2.2.2.2) HL1.out.1 HL1.out.2).mono ?_)
      rintro e wq1 ⟨gy1, rfl, hOy1, hdq1⟩
      have HOy1 := Lib.hid hOy1
      clear hOy1
      try go_simp
      have hS2 := (show wq1.cell? ⟨p0, 0, none⟩ = some (.string a0_0) ∧ wq1.cell? ⟨p0, 1, none⟩ = some (.int .i64 a0_1) ∧ wq1.cell? ⟨p0, 2, none⟩ = some (.slice A0_2 x0_2.length C0_2) ∧ wq1.cell? ⟨p1, 0, none⟩ = some (.string a1_0) ∧ wq1.cell? ⟨p1, 1, none⟩ = some (.int .i64 a1_1) ∧ wq1.cell? ⟨p1, 2, none⟩ = some (.slice A1_2 x1_2.length C1_2) ∧ Below w3.heap.size w3 wq1 from ⟨cellK hS1.1 hdq1, cellK hS1.2.1 hdq1, cellK hS1.2.2.1 hdq1, cellK hS1.2.2.2.1 hdq1, cellK hS1.2.2.2.2.1 hdq1, cellK hS1.2.2.2.2.2.1 hdq1, hS1.2.2.2.2.2.2.trans (hdq1.mono hS1.2.2.2.2.2.2.size)⟩)
      refine hK _ _ hS2 ?_
      clear hK K
      refine gOne 4 rfl (by kernel_rfl) (by kernel_rfl) (fun K hK => ?_)
      go_simp
      go_at_call 23
      (with_reducible refine (sSameFan_any a0_0 a0_1 (some ⟨gy0, 0, none⟩) x0_2.length x0_2 a1_0 a1_1 (some ⟨gy1, 0, none⟩) x1_2.length x1_2 _ (HOy0.out.rows.below hdq1) HL0.out.1 HL0.out.2 HOy1.out.rows HL1.out.1 HL1.out.2).mono ?_)
      rintro e wq2 ⟨rfl, hdq2⟩
      try go_simp
      have hS3 := (show wq2.cell? ⟨p0, 0, none⟩ = some (.string a0_0) ∧ wq2.cell? ⟨p0, 1, none⟩ = some (.int .i64 a0_1) ∧ wq2.cell? ⟨p0, 2, none⟩ = some (.slice A0_2 x0_2.length C0_2) ∧ wq2.cell? ⟨p1, 0, none⟩ = some (.string a1_0) ∧ wq2.cell? ⟨p1, 1, none⟩ = some (.int .i64 a1_1) ∧ wq2.cell? ⟨p1, 2, none⟩ = some (.slice A1_2 x1_2.length C1_2) ∧ Below w3.heap.size w3 wq2 from ⟨cellK hS2.1 hdq2, cellK hS2.2.1 hdq2, cellK hS2.2.2.1 hdq2, cellK hS2.2.2.2.1 hdq2, cellK hS2.2.2.2.2.1 hdq2, cellK hS2.2.2.2.2.2.1 hdq2, hS2.2.2.2.2.2.2.trans (hdq2.mono hS2.2.2.2.2.2.2.size)⟩)
      refine hK _ _ hS3 ?_
      clear hK K
      refine gTake 5 (v := ?_) rfl (by kernel_rfl) (by kernel_rfl) (by kernel_rfl) (fun _ _ _ h => h) (by kernel_rfl) ?_ hS3 ?_
      rotate_left
      · (intro W hW; clear hW; go_simp; try with_reducible rfl)
      refine wpAnyH_done (by kernel_rfl) ?_ _
      go_simp
      have hd4 := hS3.2.2.2.2.2.2
      obtain ⟨w4, hL4⟩ : ∃ x, x = wq2 := ⟨_, rfl⟩
      rw [← hL4] at hd4 ⊢
      have HB_4 := Lib.hid (show Below w.heap.size w w4 from HB_3.out.trans (hd4.mono HB_3.out.size))
      have B0c0_4 : w4.cell? ⟨p0, 0, none⟩ = some (.string a0_0) := cellK B0c0_3 hd4
      have B0c1_4 : w4.cell? ⟨p0, 1, none⟩ = some (.int .i64 a0_1) := cellK B0c1_3 hd4
      have B0c2_4 : w4.cell? ⟨p0, 2, none⟩ = some (.slice A0_2 x0_2.length C0_2) := cellK B0c2_3 hd4
      have R0_4 := Lib.hid (show RowsR w4 A0_2 x0_2 from RowsR.below R0_3.out hd4)
      have B1c0_4 : w4.cell? ⟨p1, 0, none⟩ = some (.string a1_0) := cellK B1c0_3 hd4
      have B1c1_4 : w4.cell? ⟨p1, 1, none⟩ = some (.int .i64 a1_1) := cellK B1c1_3 hd4
      have B1c2_4 : w4.cell? ⟨p1, 2, none⟩ = some (.slice A1_2 x1_2.length C1_2) := cellK B1c2_3 hd4
      have R1_4 := Lib.hid (show RowsR w4 A1_2 x1_2 from RowsR.below R1_3.out hd4)
      clear B0c0_3 B0c1_3 B0c2_3 R0_3 B1c0_3 B1c1_3 B1c2_3 R1_3
      clear hd4 hL4
      clear hS0 hS1 hS2 hS3 hdq0 hdq1 hdq2
      go_wp2_with fail
      (with_reducible refine (toFan_own a0_0 a0_1 A0_2 C0_2 x0_2 _ R0_4.out HL0.out.1 HL0.out.2).mono ?_)
      rintro e w5 ⟨gm0, rfl, hO5, hd5⟩
      have HB_5 := Lib.hid (show Below w.heap.size w w5 from HB_4.out.trans (hd5.mono HB_4.out.size))
      have B0c0_5 : w5.cell? ⟨p0, 0, none⟩ = some (.string a0_0) := cellK B0c0_4 hd5
      have B0c1_5 : w5.cell? ⟨p0, 1, none⟩ = some (.int .i64 a0_1) := cellK B0c1_4 hd5
      have B0c2_5 : w5.cell? ⟨p0, 2, none⟩ = some (.slice A0_2 x0_2.length C0_2) := cellK B0c2_4 hd5
      have R0_5 := Lib.hid (show RowsR w5 A0_2 x0_2 from RowsR.below R0_4.out hd5)
      have B1c0_5 : w5.cell? ⟨p1, 0, none⟩ = some (.string a1_0) := cellK B1c0_4 hd5
      have B1c1_5 : w5.cell? ⟨p1, 1, none⟩ = some (.int .i64 a1_1) := cellK B1c1_4 hd5
      have B1c2_5 : w5.cell? ⟨p1, 2, none⟩ = some (.slice A1_2 x1_2.length C1_2) := cellK B1c2_4 hd5
      have R1_5 := Lib.hid (show RowsR w5 A1_2 x1_2 from RowsR.below R1_4.out hd5)
      clear B0c0_4 B0c1_4 B0c2_4 R0_4 B1c0_4 B1c1_4 B1c2_4 R1_4
      have Om0_5 := Lib.hid (show OwnSS w5 w4.heap.size (.slice (some ⟨gm0, 0, none⟩) x0_2.length x0_2.length) x0_2 from hO5)
      clear hO5
      clear hd5
      have hltp0 : p0 < w5.heap.size := World.block_lt_of_cell? _ _ B0c0_5
      have hnep0 : ¬ (p0 = w5.heap.size) := Nat.ne_of_lt hltp0
      have hltp1 : p1 < w5.heap.size := World.block_lt_of_cell? _ _ B1c0_5
      have hnep1 : ¬ (p1 = w5.heap.size) := Nat.ne_of_lt hltp1
      go_wp2_with fail
      clear hltp0 hnep0 hltp1 hnep1
      obtain ⟨w6, hL6⟩ : ∃ x, x = w5.alloc (.cells #[.string a0_0, .int .i64 a0_1, .slice (some ⟨gm0, 0, none⟩) x0_2.length x0_2.length] 27) := ⟨_, rfl⟩
      have hd6 : Below w5.heap.size w5 w6 := hL6 ▸ below_box _ _
      obtain ⟨pX, hpX⟩ : ∃ p, p = w5.heap.size := ⟨_, rfl⟩
      rw [← hL6, ← hpX]
      have HB_6 := Lib.hid (show Below w.heap.size w w6 from HB_5.out.trans (hd6.mono HB_5.out.size))
      have B0c0_6 : w6.cell? ⟨p0, 0, none⟩ = some (.string a0_0) := cellK B0c0_5 hd6
      have B0c1_6 : w6.cell? ⟨p0, 1, none⟩ = some (.int .i64 a0_1) := cellK B0c1_5 hd6
      have B0c2_6 : w6.cell? ⟨p0, 2, none⟩ = some (.slice A0_2 x0_2.length C0_2) := cellK B0c2_5 hd6
      have R0_6 := Lib.hid (show RowsR w6 A0_2 x0_2 from RowsR.below R0_5.out hd6)
      have B1c0_6 : w6.cell? ⟨p1, 0, none⟩ = some (.string a1_0) := cellK B1c0_5 hd6
      have B1c1_6 : w6.cell? ⟨p1, 1, none⟩ = some (.int .i64 a1_1) := cellK B1c1_5 hd6
      have B1c2_6 : w6.cell? ⟨p1, 2, none⟩ = some (.slice A1_2 x1_2.length C1_2) := cellK B1c2_5 hd6
      have R1_6 := Lib.hid (show RowsR w6 A1_2 x1_2 from RowsR.below R1_5.out hd6)
      have Om0_6 := Lib.hid (show OwnSS w6 w4.heap.size (.slice (some ⟨gm0, 0, none⟩) x0_2.length x0_2.length) x0_2 from OwnSS.below Om0_5.out hd6)
      clear B0c0_5 B0c1_5 B0c2_5 R0_5 B1c0_5 B1c1_5 B1c2_5 R1_5 Om0_5
      have X0_6 : w6.cell? ⟨pX, 0, none⟩ = some (.string a0_0) := (by rw [hL6, hpX]; simp)
      have X1_6 : w6.cell? ⟨pX, 1, none⟩ = some (.int .i64 a0_1) := (by rw [hL6, hpX]; simp)
      have X2_6 : w6.cell? ⟨pX, 2, none⟩ = some (.slice (some ⟨gm0, 0, none⟩) x0_2.length x0_2.length) := (by rw [hL6, hpX]; simp)
      clear hd6 hL6 hpX
      go_wp2_with fail
      (with_reducible refine (toFan_own a1_0 a1_1 A1_2 C1_2 x1_2 _ R1_6.out HL1.out.1 HL1.out.2).mono ?_)
      rintro e w7 ⟨gm1, rfl, hO7, hd7⟩
      have HB_7 := Lib.hid (show Below w.heap.size w w7 from HB_6.out.trans (hd7.mono HB_6.out.size))
      have B0c0_7 : w7.cell? ⟨p0, 0, none⟩ = some (.string a0_0) := cellK B0c0_6 hd7
      have B0c1_7 : w7.cell? ⟨p0, 1, none⟩ = some (.int .i64 a0_1) := cellK B0c1_6 hd7
      have B0c2_7 : w7.cell? ⟨p0, 2, none⟩ = some (.slice A0_2 x0_2.length C0_2) := cellK B0c2_6 hd7
      have R0_7 := Lib.hid (show RowsR w7 A0_2 x0_2 from RowsR.below R0_6.out hd7)
      have B1c0_7 : w7.cell? ⟨p1, 0, none⟩ = some (.string a1_0) := cellK B1c0_6 hd7
      have B1c1_7 : w7.cell? ⟨p1, 1, none⟩ = some (.int .i64 a1_1) := cellK B1c1_6 hd7
      have B1c2_7 : w7.cell? ⟨p1, 2, none⟩ = some (.slice A1_2 x1_2.length C1_2) := cellK B1c2_6 hd7
      have R1_7 := Lib.hid (show RowsR w7 A1_2 x1_2 from RowsR.below R1_6.out hd7)
      have Om0_7 := Lib.hid (show OwnSS w7 w4.heap.size (.slice (some ⟨gm0, 0, none⟩) x0_2.length x0_2.length) x0_2 from OwnSS.below Om0_6.out hd7)
      have X0_7 : w7.cell? ⟨pX, 0, none⟩ = some (.string a0_0) := cellK X0_6 hd7
      have X1_7 : w7.cell? ⟨pX, 1, none⟩ = some (.int .i64 a0_1) := cellK X1_6 hd7
      have X2_7 : w7.cell? ⟨pX, 2, none⟩ = some (.slice (some ⟨gm0, 0, none⟩) x0_2.length x0_2.length) := cellK X2_6 hd7
      clear B0c0_6 B0c1_6 B0c2_6 R0_6 B1c0_6 B1c1_6 B1c2_6 R1_6 Om0_6 X0_6 X1_6 X2_6
      have Om1_7 := Lib.hid (show OwnSS w7 w6.heap.size (.slice (some ⟨gm1, 0, none⟩) x1_2.length x1_2.length) x1_2 from hO7)
      clear hO7
      clear hd7
      have hltp0 : p0 < w7.heap.size := World.block_lt_of_cell? _ _ B0c0_7
      have hnep0 : ¬ (p0 = w7.heap.size) := Nat.ne_of_lt hltp0
      have hltp1 : p1 < w7.heap.size := World.block_lt_of_cell? _ _ B1c0_7
      have hnep1 : ¬ (p1 = w7.heap.size) := Nat.ne_of_lt hltp1
      have hltpX : pX < w7.heap.size := World.block_lt_of_cell? _ _ X0_7
      have hnepX : ¬ (pX = w7.heap.size) := Nat.ne_of_lt hltpX
      go_wp2_with fail
      clear hltp0 hnep0 hltp1 hnep1 hltpX hnepX
      obtain ⟨w8, hL8⟩ : ∃ x, x = w7.alloc (.cells #[.string a1_0, .int .i64 a1_1, .slice (some ⟨gm1, 0, none⟩) x1_2.length x1_2.length] 27) := ⟨_, rfl⟩
      have hd8 : Below w7.heap.size w7 w8 := hL8 ▸ below_box _ _
      obtain ⟨pY, hpY⟩ : ∃ p, p = w7.heap.size := ⟨_, rfl⟩
      rw [← hL8, ← hpY]
      have HB_8 := Lib.hid (show Below w.heap.size w w8 from HB_7.out.trans (hd8.mono HB_7.out.size))
      have B0c0_8 : w8.cell? ⟨p0, 0, none⟩ = some (.string a0_0) := cellK B0c0_7 hd8
      have B0c1_8 : w8.cell? ⟨p0, 1, none⟩ = some (.int .i64 a0_1) := cellK B0c1_7 hd8
      have B0c2_8 : w8.cell? ⟨p0, 2, none⟩ = some (.slice A0_2 x0_2.length C0_2) := cellK B0c2_7 hd8
      have R0_8 := Lib.hid (show RowsR w8 A0_2 x0_2 from RowsR.below R0_7.out hd8)
      have B1c0_8 : w8.cell? ⟨p1, 0, none⟩ = some (.string a1_0) := cellK B1c0_7 hd8
      have B1c1_8 : w8.cell? ⟨p1, 1, none⟩ = some (.int .i64 a1_1) := cellK B1c1_7 hd8
      have B1c2_8 : w8.cell? ⟨p1, 2, none⟩ = some (.slice A1_2 x1_2.length C1_2) := cellK B1c2_7 hd8
      have R1_8 := Lib.hid (show RowsR w8 A1_2 x1_2 from RowsR.below R1_7.out hd8)
      have Om0_8 := Lib.hid (show OwnSS w8 w4.heap.size (.slice (some ⟨gm0, 0, none⟩) x0_2.length x0_2.length) x0_2 from OwnSS.below Om0_7.out hd8)
      have X0_8 : w8.cell? ⟨pX, 0, none⟩ = some (.string a0_0) := cellK X0_7 hd8
      have X1_8 : w8.cell? ⟨pX, 1, none⟩ = some (.int .i64 a0_1) := cellK X1_7 hd8
      have X2_8 : w8.cell? ⟨pX, 2, none⟩ = some (.slice (some ⟨gm0, 0, none⟩) x0_2.length x0_2.length) := cellK X2_7 hd8
      have Om1_8 := Lib.hid (show OwnSS w8 w6.heap.size (.slice (some ⟨gm1, 0, none⟩) x1_2.length x1_2.length) x1_2 from OwnSS.below Om1_7.out hd8)
      clear B0c0_7 B0c1_7 B0c2_7 R0_7 B1c0_7 B1c1_7 B1c2_7 R1_7 Om0_7 X0_7 X1_7 X2_7 Om1_7
      have Y0_8 : w8.cell? ⟨pY, 0, none⟩ = some (.string a1_0) := (by rw [hL8, hpY]; simp)
      have Y1_8 : w8.cell? ⟨pY, 1, none⟩ = some (.int .i64 a1_1) := (by rw [hL8, hpY]; simp)
      have Y2_8 : w8.cell? ⟨pY, 2, none⟩ = some (.slice (some ⟨gm1, 0, none⟩) x1_2.length x1_2.length) := (by rw [hL8, hpY]; simp)
      clear hd8 hL8 hpY
      go_wp2_with fail
      (with_reducible refine (iSameFan_any a0_0 a0_1 (some ⟨gm0, 0, none⟩) x0_2.length x0_2 a1_0 a1_1 (some ⟨gm1, 0, none⟩) x1_2.length x1_2 _ Om0_8.out.rows HL0.out.1 HL0.out.2 Om1_8.out.rows HL1.out.1 HL1.out.2).mono ?_)
      rintro e w9 ⟨rfl, hd9⟩
      have HB_9 := Lib.hid (show Below w.heap.size w w9 from HB_8.out.trans (hd9.mono HB_8.out.size))
      have B0c0_9 : w9.cell? ⟨p0, 0, none⟩ = some (.string a0_0) := cellK B0c0_8 hd9
      have B0c1_9 : w9.cell? ⟨p0, 1, none⟩ = some (.int .i64 a0_1) := cellK B0c1_8 hd9
      have B0c2_9 : w9.cell? ⟨p0, 2, none⟩ = some (.slice A0_2 x0_2.length C0_2) := cellK B0c2_8 hd9
      have R0_9 := Lib.hid (show RowsR w9 A0_2 x0_2 from RowsR.below R0_8.out hd9)
      have B1c0_9 : w9.cell? ⟨p1, 0, none⟩ = some (.string a1_0) := cellK B1c0_8 hd9
      have B1c1_9 : w9.cell? ⟨p1, 1, none⟩ = some (.int .i64 a1_1) := cellK B1c1_8 hd9
      have B1c2_9 : w9.cell? ⟨p1, 2, none⟩ = some (.slice A1_2 x1_2.length C1_2) := cellK B1c2_8 hd9
      have R1_9 := Lib.hid (show RowsR w9 A1_2 x1_2 from RowsR.below R1_8.out hd9)
      have Om0_9 := Lib.hid (show OwnSS w9 w4.heap.size (.slice (some ⟨gm0, 0, none⟩) x0_2.length x0_2.length) x0_2 from OwnSS.below Om0_8.out hd9)
      have X0_9 : w9.cell? ⟨pX, 0, none⟩ = some (.string a0_0) := cellK X0_8 hd9
      have X1_9 : w9.cell? ⟨pX, 1, none⟩ = some (.int .i64 a0_1) := cellK X1_8 hd9
      have X2_9 : w9.cell? ⟨pX, 2, none⟩ = some (.slice (some ⟨gm0, 0, none⟩) x0_2.length x0_2.length) := cellK X2_8 hd9
      have Om1_9 := Lib.hid (show OwnSS w9 w6.heap.size (.slice (some ⟨gm1, 0, none⟩) x1_2.length x1_2.length) x1_2 from OwnSS.below Om1_8.out hd9)
      have Y0_9 : w9.cell? ⟨pY, 0, none⟩ = some (.string a1_0) := cellK Y0_8 hd9
      have Y1_9 : w9.cell? ⟨pY, 1, none⟩ = some (.int .i64 a1_1) := cellK Y1_8 hd9
      have Y2_9 : w9.cell? ⟨pY, 2, none⟩ = some (.slice (some ⟨gm1, 0, none⟩) x1_2.length x1_2.length) := cellK Y2_8 hd9
      clear B0c0_8 B0c1_8 B0c2_8 R0_8 B1c0_8 B1c1_8 B1c2_8 R1_8 Om0_8 X0_8 X1_8 X2_8 Om1_8 Y0_8 Y1_8 Y2_8
      clear hd9
      go_wp2_with fail
      refine wp_region_held (S := fun w' => w'.cell? ⟨pX, 0, none⟩ = some (.string a0_0) ∧ w'.cell? ⟨pX, 1, none⟩ = some (.int .i64 a0_1) ∧ w'.cell? ⟨pX, 2, none⟩ = some (.slice (some ⟨gm0, 0, none⟩) x0_2.length x0_2.length) ∧ w'.cell? ⟨p0, 0, none⟩ = some (.string a0_0) ∧ w'.cell? ⟨p0, 1, none⟩ = some (.int .i64 a0_1) ∧ w'.cell? ⟨p0, 2, none⟩ = some (.slice A0_2 x0_2.length C0_2) ∧ Below w9.heap.size w9 w') (by kernel_rfl) ?_
      try (change wpAnyH _ _ _ _ _ _ _ _ (World.drew _))
      have hS0 := (show w9.drew.cell? ⟨pX, 0, none⟩ = some (.string a0_0) ∧ w9.drew.cell? ⟨pX, 1, none⟩ = some (.int .i64 a0_1) ∧ w9.drew.cell? ⟨pX, 2, none⟩ = some (.slice (some ⟨gm0, 0, none⟩) x0_2.length x0_2.length) ∧ w9.drew.cell? ⟨p0, 0, none⟩ = some (.string a0_0) ∧ w9.drew.cell? ⟨p0, 1, none⟩ = some (.int .i64 a0_1) ∧ w9.drew.cell? ⟨p0, 2, none⟩ = some (.slice A0_2 x0_2.length C0_2) ∧ Below w9.heap.size w9 w9.drew from ⟨X0_9, X1_9, X2_9, B0c0_9, B0c1_9, B0c2_9, Below.drew (Below.refl _ _)⟩)
      refine gTake 0 (v := ?_) rfl (by kernel_rfl) (by kernel_rfl) (by kernel_rfl) (fun _ _ _ h => h) (by kernel_rfl) ?_ hS0 ?_
      rotate_left
      · (intro W hW; have q0 := hW.1; have q1 := hW.2.1; have q2 := hW.2.2.1; have q3 := hW.2.2.2.1; have q4 := hW.2.2.2.2.1; have q5 := hW.2.2.2.2.2.1; clear hW; go_simp; try with_reducible rfl)
      refine gTake 1 (v := ?_) rfl (by kernel_rfl) (by kernel_rfl) (by kernel_rfl) (fun _ _ _ h => h) (by kernel_rfl) ?_ hS0 ?_
      rotate_left
      · (intro W hW; have q0 := hW.1; have q1 := hW.2.1; have q2 := hW.2.2.1; have q3 := hW.2.2.2.1; have q4 := hW.2.2.2.2.1; have q5 := hW.2.2.2.2.2.1; clear hW; go_simp; try with_reducible rfl)
      refine gOne 2 rfl (by kernel_rfl) (by kernel_rfl) (fun K hK => ?_)
      go_simp
      go_at_call 15
      (with_reducible refine (toFan_own a0_0 a0_1 A0_2 C0_2 x0_2 _ (R0_9.out.below hS0.2.2.2.2.2.2) HL0.out.1 HL0.out.2).mono ?_)
      rintro e wq0 ⟨gz9, rfl, hOz9, hdq0⟩
      have HOz9 := Lib.hid hOz9
      clear hOz9
      try go_simp
      have hS1 := (show wq0.cell? ⟨pX, 0, none⟩ = some (.string a0_0) ∧ wq0.cell? ⟨pX, 1, none⟩ = some (.int .i64 a0_1) ∧ wq0.cell? ⟨pX, 2, none⟩ = some (.slice (some ⟨gm0, 0, none⟩) x0_2.length x0_2.length) ∧ wq0.cell? ⟨p0, 0, none⟩ = some (.string a0_0) ∧ wq0.cell? ⟨p0, 1, none⟩ = some (.int .i64 a0_1) ∧ wq0.cell? ⟨p0, 2, none⟩ = some (.slice A0_2 x0_2.length C0_2) ∧ Below w9.heap.size w9 wq0 from ⟨cellK hS0.1 hdq0, cellK hS0.2.1 hdq0, cellK hS0.2.2.1 hdq0, cellK hS0.2.2.2.1 hdq0, cellK hS0.2.2.2.2.1 hdq0, cellK hS0.2.2.2.2.2.1 hdq0, hS0.2.2.2.2.2.2.trans (hdq0.mono hS0.2.2.2.2.2.2.size)⟩)
      refine hK _ _ hS1 ?_
      clear hK K
      refine gOne 3 rfl (by kernel_rfl) (by kernel_rfl) (fun K hK => ?_)
      go_simp
      go_at_call 17
      (with_reducible refine (eqFan_same a0_0 a0_1 (some ⟨gm0, 0, none⟩) (some ⟨gz9, 0, none⟩) x0_2.length x0_2.length x0_2 _ (Om0_9.out.rows.below hS1.2.2.2.2.2.2) HOz9.out.rows HL0.out.1 HL0.out.2).mono ?_)
      rintro e wq1 ⟨rfl, hdq1⟩
      try go_simp
      have hS2 := (show wq1.cell? ⟨pX, 0, none⟩ = some (.string a0_0) ∧ wq1.cell? ⟨pX, 1, none⟩ = some (.int .i64 a0_1) ∧ wq1.cell? ⟨pX, 2, none⟩ = some (.slice (some ⟨gm0, 0, none⟩) x0_2.length x0_2.length) ∧ wq1.cell? ⟨p0, 0, none⟩ = some (.string a0_0) ∧ wq1.cell? ⟨p0, 1, none⟩ = some (.int .i64 a0_1) ∧ wq1.cell? ⟨p0, 2, none⟩ = some (.slice A0_2 x0_2.length C0_2) ∧ Below w9.heap.size w9 wq1 from ⟨cellK hS1.1 hdq1, cellK hS1.2.1 hdq1, cellK hS1.2.2.1 hdq1, cellK hS1.2.2.2.1 hdq1, cellK hS1.2.2.2.2.1 hdq1, cellK hS1.2.2.2.2.2.1 hdq1, hS1.2.2.2.2.2.2.trans (hdq1.mono hS1.2.2.2.2.2.2.size)⟩)
      refine hK _ _ hS2 ?_
      clear hK K
      refine gTake 4 (v := ?_) rfl (by kernel_rfl) (by kernel_rfl) (by kernel_rfl) (fun _ _ _ h => h) (by kernel_rfl) ?_ hS2 ?_
      rotate_left
      · (intro W hW; clear hW; go_simp; try with_reducible rfl)
      refine wpAnyH_done (by kernel_rfl) ?_ _
      go_simp
      have hd10 := hS2.2.2.2.2.2.2
      obtain ⟨w10, hL10⟩ : ∃ x, x = wq1 := ⟨_, rfl⟩
      rw [← hL10] at hd10 ⊢
      have HB_10 := Lib.hid (show Below w.heap.size w w10 from HB_9.out.trans (hd10.mono HB_9.out.size))
      have B0c0_10 : w10.cell? ⟨p0, 0, none⟩ = some (.string a0_0) := cellK B0c0_9 hd10
      have B0c1_10 : w10.cell? ⟨p0, 1, none⟩ = some (.int .i64 a0_1) := cellK B0c1_9 hd10
      have B0c2_10 : w10.cell? ⟨p0, 2, none⟩ = some (.slice A0_2 x0_2.length C0_2) := cellK B0c2_9 hd10
      have R0_10 := Lib.hid (show RowsR w10 A0_2 x0_2 from RowsR.below R0_9.out hd10)
      have B1c0_10 : w10.cell? ⟨p1, 0, none⟩ = some (.string a1_0) := cellK B1c0_9 hd10
      have B1c1_10 : w10.cell? ⟨p1, 1, none⟩ = some (.int .i64 a1_1) := cellK B1c1_9 hd10
      have B1c2_10 : w10.cell? ⟨p1, 2, none⟩ = some (.slice A1_2 x1_2.length C1_2) := cellK B1c2_9 hd10
      have R1_10 := Lib.hid (show RowsR w10 A1_2 x1_2 from RowsR.below R1_9.out hd10)
      have Om0_10 := Lib.hid (show OwnSS w10 w4.heap.size (.slice (some ⟨gm0, 0, none⟩) x0_2.length x0_2.length) x0_2 from OwnSS.below Om0_9.out hd10)
      have X0_10 : w10.cell? ⟨pX, 0, none⟩ = some (.string a0_0) := cellK X0_9 hd10
      have X1_10 : w10.cell? ⟨pX, 1, none⟩ = some (.int .i64 a0_1) := cellK X1_9 hd10
      have X2_10 : w10.cell? ⟨pX, 2, none⟩ = some (.slice (some ⟨gm0, 0, none⟩) x0_2.length x0_2.length) := cellK X2_9 hd10
      have Om1_10 := Lib.hid (show OwnSS w10 w6.heap.size (.slice (some ⟨gm1, 0, none⟩) x1_2.length x1_2.length) x1_2 from OwnSS.below Om1_9.out hd10)
      have Y0_10 : w10.cell? ⟨pY, 0, none⟩ = some (.string a1_0) := cellK Y0_9 hd10
      have Y1_10 : w10.cell? ⟨pY, 1, none⟩ = some (.int .i64 a1_1) := cellK Y1_9 hd10
      have Y2_10 : w10.cell? ⟨pY, 2, none⟩ = some (.slice (some ⟨gm1, 0, none⟩) x1_2.length x1_2.length) := cellK Y2_9 hd10
      clear B0c0_9 B0c1_9 B0c2_9 R0_9 B1c0_9 B1c1_9 B1c2_9 R1_9 Om0_9 X0_9 X1_9 X2_9 Om1_9 Y0_9 Y1_9 Y2_9
      clear hd10 hL10
      clear hS0 hS1 hS2 hdq0 hdq1
      go_wp2_with fail
      refine wp_region_held (S := fun w' => w'.cell? ⟨pY, 0, none⟩ = some (.string a1_0) ∧ w'.cell? ⟨pY, 1, none⟩ = some (.int .i64 a1_1) ∧ w'.cell? ⟨pY, 2, none⟩ = some (.slice (some ⟨gm1, 0, none⟩) x1_2.length x1_2.length) ∧ w'.cell? ⟨p1, 0, none⟩ = some (.string a1_0) ∧ w'.cell? ⟨p1, 1, none⟩ = some (.int .i64 a1_1) ∧ w'.cell? ⟨p1, 2, none⟩ = some (.slice A1_2 x1_2.length C1_2) ∧ Below w10.heap.size w10 w') (by kernel_rfl) ?_
      try (change wpAnyH _ _ _ _ _ _ _ _ (World.drew _))
      have hS0 := (show w10.drew.cell? ⟨pY, 0, none⟩ = some (.string a1_0) ∧ w10.drew.cell? ⟨pY, 1, none⟩ = some (.int .i64 a1_1) ∧ w10.drew.cell? ⟨pY, 2, none⟩ = some (.slice (some ⟨gm1, 0, none⟩) x1_2.length x1_2.length) ∧ w10.drew.cell? ⟨p1, 0, none⟩ = some (.string a1_0) ∧ w10.drew.cell? ⟨p1, 1, none⟩ = some (.int .i64 a1_1) ∧ w10.drew.cell? ⟨p1, 2, none⟩ = some (.slice A1_2 x1_2.length C1_2) ∧ Below w10.heap.size w10 w10.drew from ⟨Y0_10, Y1_10, Y2_10, B1c0_10, B1c1_10, B1c2_10, Below.drew (Below.refl _ _)⟩)
      refine gTake 0 (v := ?_) rfl (by kernel_rfl) (by kernel_rfl) (by kernel_rfl) (fun _ _ _ h => h) (by kernel_rfl) ?_ hS0 ?_
      rotate_left
      · (intro W hW; have q0 := hW.1; have q1 := hW.2.1; have q2 := hW.2.2.1; have q3 := hW.2.2.2.1; have q4 := hW.2.2.2.2.1; have q5 := hW.2.2.2.2.2.1; clear hW; go_simp; try with_reducible rfl)
      refine gTake 1 (v := ?_) rfl (by kernel_rfl) (by kernel_rfl) (by kernel_rfl) (fun _ _ _ h => h) (by kernel_rfl) ?_ hS0 ?_
      rotate_left
      · (intro W hW; have q0 := hW.1; have q1 := hW.2.1; have q2 := hW.2.2.1; have q3 := hW.2.2.2.1; have q4 := hW.2.2.2.2.1; have q5 := hW.2.2.2.2.2.1; clear hW; go_simp; try with_reducible rfl)
      refine gOne 2 rfl (by kernel_rfl) (by kernel_rfl) (fun K hK => ?_)
      go_simp
      go_at_call 15
      (with_reducible refine (toFan_own a1_0 a1_1 A1_2 C1_2 x1_2 _ (R1_10.out.below hS0.2.2.2.2.2.2) HL1.out.1 HL1.out.2).mono ?_)
      rintro e wq0 ⟨gz10, rfl, hOz10, hdq0⟩
      have HOz10 := Lib.hid hOz10
      clear hOz10
      try go_simp
      have hS1 := (show wq0.cell? ⟨pY, 0, none⟩ = some (.string a1_0) ∧ wq0.cell? ⟨pY, 1, none⟩ = some (.int .i64 a1_1) ∧ wq0.cell? ⟨pY, 2, none⟩ = some (.slice (some ⟨gm1, 0, none⟩) x1_2.length x1_2.length) ∧ wq0.cell? ⟨p1, 0, none⟩ = some (.string a1_0) ∧ wq0.cell? ⟨p1, 1, none⟩ = some (.int .i64 a1_1) ∧ wq0.cell? ⟨p1, 2, none⟩ = some (.slice A1_2 x1_2.length C1_2) ∧ Below w10.heap.size w10 wq0 from ⟨cellK hS0.1 hdq0, cellK hS0.2.1 hdq0, cellK hS0.2.2.1 hdq0, cellK hS0.2.2.2.1 hdq0, cellK hS0.2.2.2.2.1 hdq0, cellK hS0.2.2.2.2.2.1 hdq0, hS0.2.2.2.2.2.2.trans (hdq0.mono hS0.2.2.2.2.2.2.size)⟩)
      refine hK _ _ hS1 ?_
      clear hK K
      refine gOne 3 rfl (by kernel_rfl) (by kernel_rfl) (fun K hK => ?_)
      go_simp
      go_at_call 17
      (with_reducible refine (eqFan_same a1_0 a1_1 (some ⟨gm1, 0, none⟩) (some ⟨gz10, 0, none⟩) x1_2.length x1_2.length x1_2 _ (Om1_10.out.rows.below hS1.2.2.2.2.2.2) HOz10.out.rows HL1.out.1 HL1.out.2).mono ?_)
      rintro e wq1 ⟨rfl, hdq1⟩
      try go_simp
      have hS2 := (show wq1.cell? ⟨pY, 0, none⟩ = some (.string a1_0) ∧ wq1.cell? ⟨pY, 1, none⟩ = some (.int .i64 a1_1) ∧ wq1.cell? ⟨pY, 2, none⟩ = some (.slice (some ⟨gm1, 0, none⟩) x1_2.length x1_2.length) ∧ wq1.cell? ⟨p1, 0, none⟩ = some (.string a1_0) ∧ wq1.cell? ⟨p1, 1, none⟩ = some (.int .i64 a1_1) ∧ wq1.cell? ⟨p1, 2, none⟩ = some (.slice A1_2 x1_2.length C1_2) ∧ Below w10.heap.size w10 wq1 from ⟨cellK hS1.1 hdq1, cellK hS1.2.1 hdq1, cellK hS1.2.2.1 hdq1, cellK hS1.2.2.2.1 hdq1, cellK hS1.2.2.2.2.1 hdq1, cellK hS1.2.2.2.2.2.1 hdq1, hS1.2.2.2.2.2.2.trans (hdq1.mono hS1.2.2.2.2.2.2.size)⟩)
      refine hK _ _ hS2 ?_
      clear hK K
      refine gTake 4 (v := ?_) rfl (by kernel_rfl) (by kernel_rfl) (by kernel_rfl) (fun _ _ _ h => h) (by kernel_rfl) ?_ hS2 ?_
      rotate_left
      · (intro W hW; clear hW; go_simp; try with_reducible rfl)
      refine wpAnyH_done (by kernel_rfl) ?_ _
      go_simp
      have hd11 := hS2.2.2.2.2.2.2
      obtain ⟨w11, hL11⟩ : ∃ x, x = wq1 := ⟨_, rfl⟩
      rw [← hL11] at hd11 ⊢
      have HB_11 := Lib.hid (show Below w.heap.size w w11 from HB_10.out.trans (hd11.mono HB_10.out.size))
      have B0c0_11 : w11.cell? ⟨p0, 0, none⟩ = some (.string a0_0) := cellK B0c0_10 hd11
      have B0c1_11 : w11.cell? ⟨p0, 1, none⟩ = some (.int .i64 a0_1) := cellK B0c1_10 hd11
      have B0c2_11 : w11.cell? ⟨p0, 2, none⟩ = some (.slice A0_2 x0_2.length C0_2) := cellK B0c2_10 hd11
      have R0_11 := Lib.hid (show RowsR w11 A0_2 x0_2 from RowsR.below R0_10.out hd11)
      have B1c0_11 : w11.cell? ⟨p1, 0, none⟩ = some (.string a1_0) := cellK B1c0_10 hd11
      have B1c1_11 : w11.cell? ⟨p1, 1, none⟩ = some (.int .i64 a1_1) := cellK B1c1_10 hd11
      have B1c2_11 : w11.cell? ⟨p1, 2, none⟩ = some (.slice A1_2 x1_2.length C1_2) := cellK B1c2_10 hd11
      have R1_11 := Lib.hid (show RowsR w11 A1_2 x1_2 from RowsR.below R1_10.out hd11)
      have Om0_11 := Lib.hid (show OwnSS w11 w4.heap.size (.slice (some ⟨gm0, 0, none⟩) x0_2.length x0_2.length) x0_2 from OwnSS.below Om0_10.out hd11)
      have X0_11 : w11.cell? ⟨pX, 0, none⟩ = some (.string a0_0) := cellK X0_10 hd11
      have X1_11 : w11.cell? ⟨pX, 1, none⟩ = some (.int .i64 a0_1) := cellK X1_10 hd11
      have X2_11 : w11.cell? ⟨pX, 2, none⟩ = some (.slice (some ⟨gm0, 0, none⟩) x0_2.length x0_2.length) := cellK X2_10 hd11
      have Om1_11 := Lib.hid (show OwnSS w11 w6.heap.size (.slice (some ⟨gm1, 0, none⟩) x1_2.length x1_2.length) x1_2 from OwnSS.below Om1_10.out hd11)
      have Y0_11 : w11.cell? ⟨pY, 0, none⟩ = some (.string a1_0) := cellK Y0_10 hd11
      have Y1_11 : w11.cell? ⟨pY, 1, none⟩ = some (.int .i64 a1_1) := cellK Y1_10 hd11
      have Y2_11 : w11.cell? ⟨pY, 2, none⟩ = some (.slice (some ⟨gm1, 0, none⟩) x1_2.length x1_2.length) := cellK Y2_10 hd11
      clear B0c0_10 B0c1_10 B0c2_10 R0_10 B1c0_10 B1c1_10 B1c2_10 R1_10 Om0_10 X0_10 X1_10 X2_10 Om1_10 Y0_10 Y1_10 Y2_10
      clear hd11 hL11
      clear hS0 hS1 hS2 hdq0 hdq1
      go_wp2
      go_ret
      exact ⟨rfl, HB_11.out⟩

set_option maxRecDepth 100000 in
theorem contract (H : Type) (enc : TypeId × Value → H) (W : World) (base : Nat) (args : Array Value) (ds gs : List (DataW H)) (before : List MemPlace)
    (hval : ∀ (j : Nat) t v, Try.f5.params[j]? = some t → args[j]? = some v → Value.okWide Try.prog W .any base t v)
    (hW : DataW.Whole enc Try.prog Try.f5.params.toList Rows.fnExactSameFanSpec.vars false W args.toList ds gs before) :
    Calls Try.prog 5 args W fun e W' => ∃ v, e = .returned v ∧ Rows.fnExactSameFanSpec.post enc Try.prog Try.f5 false true false false W args v W' := by
  have hW' := hW
  obtain ⟨p, q, hA0, hV, rfl, hfz, hnd⟩ := hW
  have hA : DataW.TrodAll enc Try.prog W 0 (fun _ => true) true Try.f5.params.toList args.toList ds p := hA0
  rw [Try.params5] at hA hval
  obtain ⟨v0, vs0, d0, ds0, p0, q0, hargs, rfl, rfl, h0, r0⟩ := trodAll_cons hA
  obtain ⟨v1, vs1, d1, ds1, p1, q1, rfl, rfl, rfl, h1, r1⟩ := trodAll_cons r0
  obtain ⟨rfl, rfl, rfl⟩ := trodAll_nil r1
  obtain rfl : args = #[v0, v1] := by cases args; simp_all
  obtain ⟨rfl, rfl⟩ := trodVars_none hV
  have k0 := h0
  have lt0 : ∀ x ∈ p0, x.block < W.heap.size := by obtain ⟨m, hm⟩ := k0; exact DataW.trod_lt m _ _ _ hm
  obtain ⟨l0, rfl, ll0, hf0⟩ := open_fields Try.underlying24 (by kernel_rfl) (by kernel_rfl) (hval 0 24 v0 rfl rfl) h0
  obtain ⟨c0_0, n0_0, y0_0, e0_0, t0_0⟩ := hf0 0 _ rfl
  obtain ⟨a0_0, q0_0, _, w0_0⟩ := DataW.trod_string Try.underlying9 t0_0
  obtain ⟨c0_1, n0_1, y0_1, e0_1, t0_1⟩ := hf0 1 _ rfl
  obtain ⟨a0_1, q0_1, _, w0_1⟩ := DataW.trod_int Try.underlying2 t0_1
  obtain ⟨c0_2, n0_2, y0_2, e0_2, t0_2⟩ := hf0 2 _ rfl
  obtain ⟨A0_2, C0_2, x0_2, q0_2, l0_2, r0_2, f0_2⟩ := open_rows t0_2
  obtain rfl := List.cons.inj q0_0 |>.1
  obtain rfl := List.cons.inj q0_1 |>.1
  obtain rfl := List.cons.inj q0_2 |>.1
  obtain rfl : l0 = [.string a0_0, .int .i64 a0_1, .slice A0_2 x0_2.length C0_2] := by
    match l0, ll0, e0_0, e0_1, e0_2 with
    | [x0, x1, x2], _, z0, z1, z2 => simp at z0 z1 z2; simp [z0, z1, z2]
  have k1 := h1
  have lt1 : ∀ x ∈ p1, x.block < W.heap.size := by obtain ⟨m, hm⟩ := k1; exact DataW.trod_lt m _ _ _ hm
  obtain ⟨l1, rfl, ll1, hf1⟩ := open_fields Try.underlying24 (by kernel_rfl) (by kernel_rfl) (hval 1 24 v1 rfl rfl) h1
  obtain ⟨c1_0, n1_0, y1_0, e1_0, t1_0⟩ := hf1 0 _ rfl
  obtain ⟨a1_0, q1_0, _, w1_0⟩ := DataW.trod_string Try.underlying9 t1_0
  obtain ⟨c1_1, n1_1, y1_1, e1_1, t1_1⟩ := hf1 1 _ rfl
  obtain ⟨a1_1, q1_1, _, w1_1⟩ := DataW.trod_int Try.underlying2 t1_1
  obtain ⟨c1_2, n1_2, y1_2, e1_2, t1_2⟩ := hf1 2 _ rfl
  obtain ⟨A1_2, C1_2, x1_2, q1_2, l1_2, r1_2, f1_2⟩ := open_rows t1_2
  obtain rfl := List.cons.inj q1_0 |>.1
  obtain rfl := List.cons.inj q1_1 |>.1
  obtain rfl := List.cons.inj q1_2 |>.1
  obtain rfl : l1 = [.string a1_0, .int .i64 a1_1, .slice A1_2 x1_2.length C1_2] := by
    match l1, ll1, e1_0, e1_1, e1_2 with
    | [x0, x1, x2], _, z0, z1, z2 => simp at z0 z1 z2; simp [z0, z1, z2]
  clear hA0
  refine (walk W a0_0 w0_0 a0_1 w0_1 A0_2 C0_2 x0_2 l0_2 r0_2 f0_2 a1_0 w1_0 a1_1 w1_1 A1_2 C1_2 x1_2 l1_2 r1_2 f1_2).mono fun e W' ⟨he, bel⟩ => ?_
  subst he
  exact ⟨_, rfl, _, _, _, [], _, [], hW', trodAll_mk1 (shut_bool Try.underlying4 _), (trodAll_cons_mk (Below.trod laidOut (by kernel_rfl) (of_decide_eq_true (by kernel_rfl)) k0 bel lt0) (trodAll_cons_mk (Below.trod laidOut (by kernel_rfl) (of_decide_eq_true (by kernel_rfl)) k1 bel lt1) trodAll_mk0)), rfl, bel.frame _, fun h => by cases h⟩

set_option maxRecDepth 100000 in
theorem lifted (os : Os) (started : os.Started) (H : Type) (enc : TypeId × Value → H) :
    ReturnsInHanded {} Try.checked os 5 .any (Rows.fnExactSameFanSpec.pre6 enc Try.prog Try.f5 Rows.fnExactSameFanRow.domain false) (Rows.fnExactSameFanSpec.post enc Try.prog Try.f5 false true false false) := by
  refine returnsInHanded_of_change (C := Try.checked) own started (by kernel_rfl) Try.func5
    (ChangeSpec.witness6 (enc := enc) (C := Try.checked) false ⟨#[], #[.agg #[.string ByteArray.empty, .int .i64 0, .slice none 0 0], .agg #[.string ByteArray.empty, .int .i64 0, .slice none 0 0]], []⟩ 8 (by kernel_rfl) (by kernel_rfl) (by kernel_rfl) (by kernel_rfl)) ?_
  intro W base args ds gs before hval hW hcnd _
  exact contract H enc W base args ds gs before hval hW

theorem proved : Rows.FnExactSameFanSaid :=
  OpenClaim.holds_of_wide 5 Try.f5 rfl rfl rfl rfl rfl rfl rfl ⟨rfl, rfl, rfl, rfl, rfl⟩ rfl rfl rfl rfl rfl (by kernel_rfl) Try.func5 (by kernel_rfl)
    (of_decide_eq_true (by kernel_rfl)) (by unfold Func.isWrapper; first | (rw [if_pos (by decide +kernel)]; kernel_rfl) | (rw [if_neg (by decide +kernel)]; exact ⟨rfl, rfl⟩))
    (fun os started H enc _ => lifted os started H enc)
#print axioms proved
end Go.Proofs.Ytcnpddmghjjhjaa.fnExactSameFan
