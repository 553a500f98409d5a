/-
  PROVED: for every input the function laws.FnExactGasOf returns true and leaves its arguments as they were. Conditions: none.
-/
import Derived.Test.YthbofhlfggkolaaRows
import Derived.Test.YthbofhlfggkolaaPg
import Derived.Test.YthbofhlfggkolaaPb
import Derived.Test.YthbofhlfggkolaaGg
import Derived.Test.YthbofhlfggkolaaFx
import Derived.WalkKit
import Derived.ProofKit
import Derived.OpenShut
import Derived.ShutString
import Derived.ChangeOld
import Derived.Below
import Derived.Carry
import Derived.Lib.SmallJoins
import Derived.ChangeArms
namespace Go.Proofs.Ythbofhlfggkolaa.fnExactGasOf
open Go.ChangeShapes Go.WideShapes Go.ChangeAt Go.RowKit
open Go.ChangeMaps (open_string shut_string)
open Go.Joins Go.Deep
set_option linter.unusedVariables false
set_option linter.unusedSimpArgs false

theorem own : ownKnob Try.prog.godebug = none := by kernel_rfl
theorem laidOut : laidOutB Try.prog = true := by kernel_rfl
section
variable {H : Type} {enc : TypeId × Value → H} {P : Program} {w : World} {base : Nat} {spare : Nat → Bool} {held : Bool}
theorem open_fields {r : Reach} {b0 : Nat} {t : TypeId} {fs : Array Field} {v : Value} {d : DataW H} {p : List MemPlace} (hs : P.underlying t = some (.struct fs)) (hone : oneCellFields P fs = true) (hC : P.cellsOf t = fs.size)
    (hv : Value.okWide P w r b0 t v) (h : DataW.Trod enc P w base spare held t v d p) :
    ∃ l : List Value, v = .agg ⟨l⟩ ∧ l.length = fs.size ∧ ∀ (j : Nat) (f : Field), fs[j]? = some f → ∃ (c : Value) (n : Nat) (y : DataW H × List MemPlace), l[j]? = some c ∧ DataW.trod enc P w base spare held n f.type [c] = some y := by
  obtain ⟨cs, rfl, hsz⟩ := okWide_struct hs hv
  obtain ⟨l⟩ := cs
  obtain ⟨fuel, hf⟩ := h
  obtain ⟨xs, n, _, _, _, hlen, hg⟩ := DataW.trod_struct hs hf
  have hl : l.length = fs.size := by simpa using hsz.trans hC
  refine ⟨l, rfl, hl, fun j f hj => ?_⟩
  obtain ⟨o, k⟩ := hone_of hone j f hj
  have hjf : j < fs.size := (Array.getElem?_eq_some_iff.1 hj).1
  have hjl : j < l.length := by omega
  have h1 := hg j f hj
  rw [o, k] at h1
  have e : (l.drop j).take 1 = [l[j]] := by
    rw [List.drop_eq_getElem_cons hjl]; rfl
  replace h1 : DataW.trod enc P w base spare held n f.type ((l.drop j).take 1) = xs[j]? := by simpa [Value.cells] using h1
  rw [e] at h1
  have hx : xs[j]? = some (xs[j]'(by omega)) := List.getElem?_eq_getElem (by omega)
  exact ⟨l[j], _, _, List.getElem?_eq_getElem hjl, h1.trans hx⟩
end
set_option maxHeartbeats 4000000 in

theorem walk (w : World) (a0_0 : Int) (w0_0 : (Lit.int .i64 a0_0).wf = true) (A0_1 : Option Addr) (C0_1 : Nat) (x0_1 : List Aw) (l0_1 : x0_1.length ≤ maxLen) (r0_1 : AwR w A0_1 x0_1) (f0_1 : ∀ a ∈ x0_1, a.fits) (A1 : Option Addr) (C1 : Nat) (x1 : List So) (l1 : x1.length ≤ maxLen) (r1 : SoR w A1 x1) (f1 : ∀ a ∈ x1, a.fits) (a2 : Int) (w2 : (Lit.int .i64 a2).wf = true) :
    Calls Try.prog 6 #[.agg #[.int .i64 a0_0, .slice A0_1 x0_1.length C0_1], .slice A1 x1.length C1, .int .i64 a2] w fun e w' => e = .returned (.bool true) ∧ Below w.heap.size w w' := by
  have HLL0 := Lib.hid l0_1
  have HR0 := Lib.hid r0_1
  have S0 := Lib.hid (fun a ha => (f0_1 a ha).1)
  clear r0_1
  have HLL1 := Lib.hid l1
  have HR1 := Lib.hid r1
  have S1 := Lib.hid (fun a ha => (f1 a ha).1)
  clear r1
  by_cases hs0 : szL 1048576 x0_1 < 0
  · skip
    go_enter Try.func6, Try.ntmps6
    go_wp2_with fail
    obtain ⟨w1, hL1⟩ : ∃ x, x = (w.alloc (.cells #[.int .i64 a0_0, .slice A0_1 x0_1.length C0_1] 24)) := ⟨_, rfl⟩
    have hd1 : Below w.heap.size w w1 := hL1 ▸ below_box _ _
    rw [← hL1]
    obtain ⟨p0, hp0⟩ : ∃ p, p = w.heap.size := ⟨_, rfl⟩
    rw [← hp0]
    have HB_1 := Lib.hid (show Below w.heap.size w w1 from hd1)
    have B0c0_1 : w1.cell? ⟨p0, 0, none⟩ = some (.int .i64 a0_0) := (by rw [hL1, hp0]; simp)
    have B0c1_1 : w1.cell? ⟨p0, 1, none⟩ = some (.slice A0_1 x0_1.length C0_1) := (by rw [hL1, hp0]; simp)
    have R0_1 := Lib.hid (show AwR w1 A0_1 x0_1 from HR0.out.below hd1)
    have R1_1 := Lib.hid (show SoR w1 A1 x1 from HR1.out.below hd1)
    clear hd1 hL1 hp0
    go_wp2_with fail
    (with_reducible refine (szMine_any a0_0 A0_1 C0_1 x0_1 (1048576) _ R0_1.out S0.out HLL0.out (by omega)).mono ?_)
    rintro e w2 ⟨rfl, hd2⟩
    have HB_2 := Lib.hid (show Below w.heap.size w w2 from HB_1.out.trans (hd2.mono HB_1.out.size))
    have B0c0_2 : w2.cell? ⟨p0, 0, none⟩ = some (.int .i64 a0_0) := cellK B0c0_1 hd2
    have B0c1_2 : w2.cell? ⟨p0, 1, none⟩ = some (.slice A0_1 x0_1.length C0_1) := cellK B0c1_1 hd2
    have R0_2 := Lib.hid (show AwR w2 A0_1 x0_1 from AwR.below R0_1.out hd2)
    have R1_2 := Lib.hid (show SoR w2 A1 x1 from SoR.below R1_1.out hd2)
    clear B0c0_1 B0c1_1 R0_1 R1_1
    clear hd2
    go_wp2
    go_ret
    exact ⟨rfl, HB_2.out⟩
  have HL0 := Lib.hid (show x0_1.length ≤ 1048576 from by have h8 := (szL_bd (left := 1048576) (by omega) (Int.not_lt.1 hs0)).1; omega)
  have HLB1 := Lib.hid (show 0 ≤ szL 1048576 x0_1 ∧ szL 1048576 x0_1 ≤ 1048576 from by
    have h1 := Int.not_lt.1 hs0
    have h2 := (szL_le (left := 1048576) (xs := x0_1) (by omega)).2
    omega)
  by_cases hs1 : szLSo (szL 1048576 x0_1) x1 < 0
  · skip
    go_enter Try.func6, Try.ntmps6
    go_wp2_with fail
    obtain ⟨w1, hL1⟩ : ∃ x, x = (w.alloc (.cells #[.int .i64 a0_0, .slice A0_1 x0_1.length C0_1] 24)) := ⟨_, rfl⟩
    have hd1 : Below w.heap.size w w1 := hL1 ▸ below_box _ _
    rw [← hL1]
    obtain ⟨p0, hp0⟩ : ∃ p, p = w.heap.size := ⟨_, rfl⟩
    rw [← hp0]
    have HB_1 := Lib.hid (show Below w.heap.size w w1 from hd1)
    have B0c0_1 : w1.cell? ⟨p0, 0, none⟩ = some (.int .i64 a0_0) := (by rw [hL1, hp0]; simp)
    have B0c1_1 : w1.cell? ⟨p0, 1, none⟩ = some (.slice A0_1 x0_1.length C0_1) := (by rw [hL1, hp0]; simp)
    have R0_1 := Lib.hid (show AwR w1 A0_1 x0_1 from HR0.out.below hd1)
    have R1_1 := Lib.hid (show SoR w1 A1 x1 from HR1.out.below hd1)
    clear hd1 hL1 hp0
    go_wp2_with fail
    (with_reducible refine (szMine_any a0_0 A0_1 C0_1 x0_1 (1048576) _ R0_1.out S0.out HLL0.out (by omega)).mono ?_)
    rintro e w2 ⟨rfl, hd2⟩
    have HB_2 := Lib.hid (show Below w.heap.size w w2 from HB_1.out.trans (hd2.mono HB_1.out.size))
    have B0c0_2 : w2.cell? ⟨p0, 0, none⟩ = some (.int .i64 a0_0) := cellK B0c0_1 hd2
    have B0c1_2 : w2.cell? ⟨p0, 1, none⟩ = some (.slice A0_1 x0_1.length C0_1) := cellK B0c1_1 hd2
    have R0_2 := Lib.hid (show AwR w2 A0_1 x0_1 from AwR.below R0_1.out hd2)
    have R1_2 := Lib.hid (show SoR w2 A1 x1 from SoR.below R1_1.out hd2)
    clear B0c0_1 B0c1_1 R0_1 R1_1
    clear hd2
    go_wp2_with fail
    (with_reducible refine (szSourceS_any A1 C1 x1 (szL 1048576 x0_1) _ R1_2.out S1.out HLL1.out HLB1.out).mono ?_)
    rintro e w3 ⟨rfl, hd3⟩
    have HB_3 := Lib.hid (show Below w.heap.size w w3 from HB_2.out.trans (hd3.mono HB_2.out.size))
    have B0c0_3 : w3.cell? ⟨p0, 0, none⟩ = some (.int .i64 a0_0) := cellK B0c0_2 hd3
    have B0c1_3 : w3.cell? ⟨p0, 1, none⟩ = some (.slice A0_1 x0_1.length C0_1) := cellK B0c1_2 hd3
    have R0_3 := Lib.hid (show AwR w3 A0_1 x0_1 from AwR.below R0_2.out hd3)
    have R1_3 := Lib.hid (show SoR w3 A1 x1 from SoR.below R1_2.out hd3)
    clear B0c0_2 B0c1_2 R0_2 R1_2
    clear hd3
    go_wp2
    go_ret
    exact ⟨rfl, HB_3.out⟩
  have HL1 := Lib.hid (show x1.length ≤ 1048576 from by have h9 := HLB1.out.2; have h8 := (szLSo_bd (left := (szL 1048576 x0_1)) HLB1.out.1 (Int.not_lt.1 hs1)).1; omega)
  go_enter Try.func6, Try.ntmps6
  go_wp2_with fail
  obtain ⟨w1, hL1⟩ : ∃ x, x = (w.alloc (.cells #[.int .i64 a0_0, .slice A0_1 x0_1.length C0_1] 24)) := ⟨_, rfl⟩
  have hd1 : Below w.heap.size w w1 := hL1 ▸ below_box _ _
  rw [← hL1]
  obtain ⟨p0, hp0⟩ : ∃ p, p = w.heap.size := ⟨_, rfl⟩
  rw [← hp0]
  have HB_1 := Lib.hid (show Below w.heap.size w w1 from hd1)
  have B0c0_1 : w1.cell? ⟨p0, 0, none⟩ = some (.int .i64 a0_0) := (by rw [hL1, hp0]; simp)
  have B0c1_1 : w1.cell? ⟨p0, 1, none⟩ = some (.slice A0_1 x0_1.length C0_1) := (by rw [hL1, hp0]; simp)
  have R0_1 := Lib.hid (show AwR w1 A0_1 x0_1 from HR0.out.below hd1)
  have R1_1 := Lib.hid (show SoR w1 A1 x1 from HR1.out.below hd1)
  clear hd1 hL1 hp0
  go_wp2_with fail
  (with_reducible refine (szMine_any a0_0 A0_1 C0_1 x0_1 (1048576) _ R0_1.out S0.out HLL0.out (by omega)).mono ?_)
  rintro e w2 ⟨rfl, hd2⟩
  have HB_2 := Lib.hid (show Below w.heap.size w w2 from HB_1.out.trans (hd2.mono HB_1.out.size))
  have B0c0_2 : w2.cell? ⟨p0, 0, none⟩ = some (.int .i64 a0_0) := cellK B0c0_1 hd2
  have B0c1_2 : w2.cell? ⟨p0, 1, none⟩ = some (.slice A0_1 x0_1.length C0_1) := cellK B0c1_1 hd2
  have R0_2 := Lib.hid (show AwR w2 A0_1 x0_1 from AwR.below R0_1.out hd2)
  have R1_2 := Lib.hid (show SoR w2 A1 x1 from SoR.below R1_1.out hd2)
  clear B0c0_1 B0c1_1 R0_1 R1_1
  clear hd2
  go_wp2_with fail
  (with_reducible refine (szSourceS_any A1 C1 x1 (szL 1048576 x0_1) _ R1_2.out S1.out HLL1.out HLB1.out).mono ?_)
  rintro e w3 ⟨rfl, hd3⟩
  have HB_3 := Lib.hid (show Below w.heap.size w w3 from HB_2.out.trans (hd3.mono HB_2.out.size))
  have B0c0_3 : w3.cell? ⟨p0, 0, none⟩ = some (.int .i64 a0_0) := cellK B0c0_2 hd3
  have B0c1_3 : w3.cell? ⟨p0, 1, none⟩ = some (.slice A0_1 x0_1.length C0_1) := cellK B0c1_2 hd3
  have R0_3 := Lib.hid (show AwR w3 A0_1 x0_1 from AwR.below R0_2.out hd3)
  have R1_3 := Lib.hid (show SoR w3 A1 x1 from SoR.below R1_2.out hd3)
  clear B0c0_2 B0c1_2 R0_2 R1_2
  clear hd3
  go_wp2_with fail
  (with_reducible refine (toMine_any a0_0 A0_1 C0_1 x0_1 _ R0_3.out HL0.out).mono ?_)
  rintro e w4 ⟨gs0, rfl, hk4, hg4, hd4⟩
  have HB_4 := Lib.hid (show Below w.heap.size w w4 from HB_3.out.trans (hd4.mono HB_3.out.size))
  have B0c0_4 : w4.cell? ⟨p0, 0, none⟩ = some (.int .i64 a0_0) := cellK B0c0_3 hd4
  have B0c1_4 : w4.cell? ⟨p0, 1, none⟩ = some (.slice A0_1 x0_1.length C0_1) := cellK B0c1_3 hd4
  have R0_4 := Lib.hid (show AwR w4 A0_1 x0_1 from AwR.below R0_3.out hd4)
  have R1_4 := Lib.hid (show SoR w4 A1 x1 from SoR.below R1_3.out hd4)
  clear B0c0_3 B0c1_3 R0_3 R1_3
  have Ks0_4 := Lib.hid (show BlkV w4 gs0 103 (awsV x0_1) from hk4)
  clear hk4 hg4
  clear hd4
  go_wp2_with fail
  (with_reducible refine (toSourceS_any A1 C1 x1 _ R1_4.out HL1.out).mono ?_)
  rintro e w5 ⟨gs1, rfl, hk5, hg5, hd5⟩
  have HB_5 := Lib.hid (show Below w.heap.size w w5 from HB_4.out.trans (hd5.mono HB_4.out.size))
  have B0c0_5 : w5.cell? ⟨p0, 0, none⟩ = some (.int .i64 a0_0) := cellK B0c0_4 hd5
  have B0c1_5 : w5.cell? ⟨p0, 1, none⟩ = some (.slice A0_1 x0_1.length C0_1) := cellK B0c1_4 hd5
  have R0_5 := Lib.hid (show AwR w5 A0_1 x0_1 from AwR.below R0_4.out hd5)
  have R1_5 := Lib.hid (show SoR w5 A1 x1 from SoR.below R1_4.out hd5)
  have Ks0_5 := Lib.hid (show BlkV w5 gs0 103 (awsV x0_1) from Ks0_4.out.below hd5 Ks0_4.out.lt)
  clear B0c0_4 B0c1_4 R0_4 R1_4 Ks0_4
  have Ks1_5 := Lib.hid (show BlkV w5 gs1 67 (soV x1) from hk5)
  clear hk5 hg5
  clear hd5
  go_wp2_with fail
  (with_reducible refine (sGasOf_any a0_0 (some ⟨gs0, 0, none⟩) x0_1.length x0_1 (some ⟨gs1, 0, none⟩) x1.length x1 a2 _ (Ks0_5.out.awr) S0.out HL0.out (Ks1_5.out.soR) S1.out HL1.out).mono ?_)
  rintro e w6 ⟨rfl, hd6⟩
  have HB_6 := Lib.hid (show Below w.heap.size w w6 from HB_5.out.trans (hd6.mono HB_5.out.size))
  have B0c0_6 : w6.cell? ⟨p0, 0, none⟩ = some (.int .i64 a0_0) := cellK B0c0_5 hd6
  have B0c1_6 : w6.cell? ⟨p0, 1, none⟩ = some (.slice A0_1 x0_1.length C0_1) := cellK B0c1_5 hd6
  have R0_6 := Lib.hid (show AwR w6 A0_1 x0_1 from AwR.below R0_5.out hd6)
  have R1_6 := Lib.hid (show SoR w6 A1 x1 from SoR.below R1_5.out hd6)
  have Ks0_6 := Lib.hid (show BlkV w6 gs0 103 (awsV x0_1) from Ks0_5.out.below hd6 Ks0_5.out.lt)
  have Ks1_6 := Lib.hid (show BlkV w6 gs1 67 (soV x1) from Ks1_5.out.below hd6 Ks1_5.out.lt)
  clear B0c0_5 B0c1_5 R0_5 R1_5 Ks0_5 Ks1_5
  clear hd6
  go_wp2_with fail
  (with_reducible refine (toMine_any a0_0 A0_1 C0_1 x0_1 _ R0_6.out HL0.out).mono ?_)
  rintro e w7 ⟨gx0, rfl, hk7, hg7, hd7⟩
  have HB_7 := Lib.hid (show Below w.heap.size w w7 from HB_6.out.trans (hd7.mono HB_6.out.size))
  have B0c0_7 : w7.cell? ⟨p0, 0, none⟩ = some (.int .i64 a0_0) := cellK B0c0_6 hd7
  have B0c1_7 : w7.cell? ⟨p0, 1, none⟩ = some (.slice A0_1 x0_1.length C0_1) := cellK B0c1_6 hd7
  have R0_7 := Lib.hid (show AwR w7 A0_1 x0_1 from AwR.below R0_6.out hd7)
  have R1_7 := Lib.hid (show SoR w7 A1 x1 from SoR.below R1_6.out hd7)
  clear B0c0_6 B0c1_6 R0_6 R1_6
  have Kx0_7 := Lib.hid (show BlkV w7 gx0 103 (awsV x0_1) from hk7)
  clear hk7 hg7
  clear hd7
  have hltp0 : p0 < w7.heap.size := World.block_lt_of_cell? _ _ B0c0_7
  have hnep0 : ¬ (p0 = w7.heap.size) := Nat.ne_of_lt hltp0
  go_wp2_with fail
  clear hltp0 hnep0
  obtain ⟨w8, hL8⟩ : ∃ x, x = w7.alloc (.cells #[.int .i64 a0_0, .slice (some ⟨gx0, 0, none⟩) x0_1.length x0_1.length] 31) := ⟨_, rfl⟩
  have hd8 : Below w7.heap.size w7 w8 := hL8 ▸ below_box _ _
  obtain ⟨px, hpx⟩ : ∃ p, p = w7.heap.size := ⟨_, rfl⟩
  rw [← hL8, ← hpx]
  have HB_8 := Lib.hid (show Below w.heap.size w w8 from HB_7.out.trans (hd8.mono HB_7.out.size))
  have B0c0_8 : w8.cell? ⟨p0, 0, none⟩ = some (.int .i64 a0_0) := cellK B0c0_7 hd8
  have B0c1_8 : w8.cell? ⟨p0, 1, none⟩ = some (.slice A0_1 x0_1.length C0_1) := cellK B0c1_7 hd8
  have R0_8 := Lib.hid (show AwR w8 A0_1 x0_1 from AwR.below R0_7.out hd8)
  have R1_8 := Lib.hid (show SoR w8 A1 x1 from SoR.below R1_7.out hd8)
  have Kx0_8 := Lib.hid (show BlkV w8 gx0 103 (awsV x0_1) from Kx0_7.out.below hd8 Kx0_7.out.lt)
  clear B0c0_7 B0c1_7 R0_7 R1_7 Kx0_7
  have x0_8 : w8.cell? ⟨px, 0, none⟩ = some (.int .i64 a0_0) := (by rw [hL8, hpx]; simp)
  have x1_8 : w8.cell? ⟨px, 1, none⟩ = some (.slice (some ⟨gx0, 0, none⟩) x0_1.length x0_1.length) := (by rw [hL8, hpx]; simp)
  clear hd8 hL8 hpx
  go_wp2_with fail
  (with_reducible refine (toSourceS_any A1 C1 x1 _ R1_8.out HL1.out).mono ?_)
  rintro e w9 ⟨gx1, rfl, hk9, hg9, hd9⟩
  have HB_9 := Lib.hid (show Below w.heap.size w w9 from HB_8.out.trans (hd9.mono HB_8.out.size))
  have B0c0_9 : w9.cell? ⟨p0, 0, none⟩ = some (.int .i64 a0_0) := cellK B0c0_8 hd9
  have B0c1_9 : w9.cell? ⟨p0, 1, none⟩ = some (.slice A0_1 x0_1.length C0_1) := cellK B0c1_8 hd9
  have R0_9 := Lib.hid (show AwR w9 A0_1 x0_1 from AwR.below R0_8.out hd9)
  have R1_9 := Lib.hid (show SoR w9 A1 x1 from SoR.below R1_8.out hd9)
  have Kx0_9 := Lib.hid (show BlkV w9 gx0 103 (awsV x0_1) from Kx0_8.out.below hd9 Kx0_8.out.lt)
  have x0_9 : w9.cell? ⟨px, 0, none⟩ = some (.int .i64 a0_0) := cellK x0_8 hd9
  have x1_9 : w9.cell? ⟨px, 1, none⟩ = some (.slice (some ⟨gx0, 0, none⟩) x0_1.length x0_1.length) := cellK x1_8 hd9
  clear B0c0_8 B0c1_8 R0_8 R1_8 Kx0_8 x0_8 x1_8
  have Kx1_9 := Lib.hid (show BlkV w9 gx1 67 (soV x1) from hk9)
  clear hk9 hg9
  clear hd9
  go_wp2_with fail
  (with_reducible refine (iGasOf_any a0_0 (some ⟨gx0, 0, none⟩) x0_1.length x0_1 (some ⟨gx1, 0, none⟩) x1.length x1 a2 _ (Kx0_9.out.awr) S0.out HL0.out (Kx1_9.out.soR) S1.out HL1.out).mono ?_)
  rintro e w10 ⟨rfl, hd10⟩
  have HB_10 := Lib.hid (show Below w.heap.size w w10 from HB_9.out.trans (hd10.mono HB_9.out.size))
  have B0c0_10 : w10.cell? ⟨p0, 0, none⟩ = some (.int .i64 a0_0) := cellK B0c0_9 hd10
  have B0c1_10 : w10.cell? ⟨p0, 1, none⟩ = some (.slice A0_1 x0_1.length C0_1) := cellK B0c1_9 hd10
  have R0_10 := Lib.hid (show AwR w10 A0_1 x0_1 from AwR.below R0_9.out hd10)
  have R1_10 := Lib.hid (show SoR w10 A1 x1 from SoR.below R1_9.out hd10)
  have Kx0_10 := Lib.hid (show BlkV w10 gx0 103 (awsV x0_1) from Kx0_9.out.below hd10 Kx0_9.out.lt)
  have x0_10 : w10.cell? ⟨px, 0, none⟩ = some (.int .i64 a0_0) := cellK x0_9 hd10
  have x1_10 : w10.cell? ⟨px, 1, none⟩ = some (.slice (some ⟨gx0, 0, none⟩) x0_1.length x0_1.length) := cellK x1_9 hd10
  have Kx1_10 := Lib.hid (show BlkV w10 gx1 67 (soV x1) from Kx1_9.out.below hd10 Kx1_9.out.lt)
  clear B0c0_9 B0c1_9 R0_9 R1_9 Kx0_9 x0_9 x1_9 Kx1_9
  clear hd10
  go_wp2_with fail
  refine wp_region_held (S := fun w' => w'.cell? ⟨px, 0, none⟩ = some (.int .i64 a0_0) ∧ w'.cell? ⟨px, 1, none⟩ = some (.slice (some ⟨gx0, 0, none⟩) x0_1.length x0_1.length) ∧ w'.cell? ⟨p0, 0, none⟩ = some (.int .i64 a0_0) ∧ w'.cell? ⟨p0, 1, none⟩ = some (.slice A0_1 x0_1.length C0_1) ∧ Below w10.heap.size w10 w') (by kernel_rfl) ?_
  try (change wpAnyH _ _ _ _ _ _ _ _ (World.drew _))
  have hS0 := (show w10.drew.cell? ⟨px, 0, none⟩ = some (.int .i64 a0_0) ∧ w10.drew.cell? ⟨px, 1, none⟩ = some (.slice (some ⟨gx0, 0, none⟩) x0_1.length x0_1.length) ∧ w10.drew.cell? ⟨p0, 0, none⟩ = some (.int .i64 a0_0) ∧ w10.drew.cell? ⟨p0, 1, none⟩ = some (.slice A0_1 x0_1.length C0_1) ∧ Below w10.heap.size w10 w10.drew from ⟨x0_10, x1_10, B0c0_10, B0c1_10, Below.drew (Below.refl _ _)⟩)
  refine gTake 0 (v := ?_) rfl (by kernel_rfl) (by kernel_rfl) (by kernel_rfl) (fun _ _ _ h => h) (by kernel_rfl) ?_ hS0 ?_
  rotate_left
  · (intro W hW; have q0 := hW.1; have q1 := hW.2.1; have q2 := hW.2.2.1; have q3 := hW.2.2.2.1; clear hW; go_simp; try with_reducible rfl)
  refine gTake 1 (v := ?_) rfl (by kernel_rfl) (by kernel_rfl) (by kernel_rfl) (fun _ _ _ h => h) (by kernel_rfl) ?_ hS0 ?_
  rotate_left
  · (intro W hW; have q0 := hW.1; have q1 := hW.2.1; have q2 := hW.2.2.1; have q3 := hW.2.2.2.1; clear hW; go_simp; try with_reducible rfl)
  refine gOne 2 rfl (by kernel_rfl) (by kernel_rfl) (fun K hK => ?_)
  go_simp
  go_at_call 12
  (with_reducible refine (toMine_any a0_0 A0_1 C0_1 x0_1 _ (R0_10.out.below hS0.2.2.2.2) HL0.out).mono ?_)
  rintro e wq0 ⟨gy, rfl, hk, hgy, hdq0⟩
  have KY := Lib.hid hk
  clear hk hgy
  try go_simp
  have hS1 := (show wq0.cell? ⟨px, 0, none⟩ = some (.int .i64 a0_0) ∧ wq0.cell? ⟨px, 1, none⟩ = some (.slice (some ⟨gx0, 0, none⟩) x0_1.length x0_1.length) ∧ wq0.cell? ⟨p0, 0, none⟩ = some (.int .i64 a0_0) ∧ wq0.cell? ⟨p0, 1, none⟩ = some (.slice A0_1 x0_1.length C0_1) ∧ Below w10.heap.size w10 wq0 from ⟨cellK hS0.1 hdq0, cellK hS0.2.1 hdq0, cellK hS0.2.2.1 hdq0, cellK hS0.2.2.2.1 hdq0, hS0.2.2.2.2.trans (hdq0.mono hS0.2.2.2.2.size)⟩)
  refine hK _ _ hS1 ?_
  clear hK K
  refine gOne 3 rfl (by kernel_rfl) (by kernel_rfl) (fun K hK => ?_)
  go_simp
  go_at_call 15
  (with_reducible refine (eqMine_same a0_0 (some ⟨gx0, 0, none⟩) (some ⟨gy, 0, none⟩) x0_1.length x0_1.length x0_1 _ (Kx0_10.out.awr.below hS1.2.2.2.2) KY.out.awr HL0.out).mono ?_)
  rintro e wq1 ⟨rfl, hdq1⟩
  try go_simp
  have hS2 := (show wq1.cell? ⟨px, 0, none⟩ = some (.int .i64 a0_0) ∧ wq1.cell? ⟨px, 1, none⟩ = some (.slice (some ⟨gx0, 0, none⟩) x0_1.length x0_1.length) ∧ wq1.cell? ⟨p0, 0, none⟩ = some (.int .i64 a0_0) ∧ wq1.cell? ⟨p0, 1, none⟩ = some (.slice A0_1 x0_1.length C0_1) ∧ Below w10.heap.size w10 wq1 from ⟨cellK hS1.1 hdq1, cellK hS1.2.1 hdq1, cellK hS1.2.2.1 hdq1, cellK hS1.2.2.2.1 hdq1, hS1.2.2.2.2.trans (hdq1.mono hS1.2.2.2.2.size)⟩)
  refine hK _ _ hS2 ?_
  clear hK K
  refine gTake 4 (v := ?_) rfl (by kernel_rfl) (by kernel_rfl) (by kernel_rfl) (fun _ _ _ h => h) (by kernel_rfl) ?_ hS2 ?_
  rotate_left
  · (intro W hW; clear hW; go_simp; try with_reducible rfl)
  refine wpAnyH_done (by kernel_rfl) ?_ _
  go_simp
  have hd11 := hS2.2.2.2.2
  obtain ⟨w11, hL11⟩ : ∃ x, x = wq1 := ⟨_, rfl⟩
  rw [← hL11] at hd11 ⊢
  have HB_11 := Lib.hid (show Below w.heap.size w w11 from HB_10.out.trans (hd11.mono HB_10.out.size))
  have B0c0_11 : w11.cell? ⟨p0, 0, none⟩ = some (.int .i64 a0_0) := cellK B0c0_10 hd11
  have B0c1_11 : w11.cell? ⟨p0, 1, none⟩ = some (.slice A0_1 x0_1.length C0_1) := cellK B0c1_10 hd11
  have R0_11 := Lib.hid (show AwR w11 A0_1 x0_1 from AwR.below R0_10.out hd11)
  have R1_11 := Lib.hid (show SoR w11 A1 x1 from SoR.below R1_10.out hd11)
  have Kx0_11 := Lib.hid (show BlkV w11 gx0 103 (awsV x0_1) from Kx0_10.out.below hd11 Kx0_10.out.lt)
  have x0_11 : w11.cell? ⟨px, 0, none⟩ = some (.int .i64 a0_0) := cellK x0_10 hd11
  have x1_11 : w11.cell? ⟨px, 1, none⟩ = some (.slice (some ⟨gx0, 0, none⟩) x0_1.length x0_1.length) := cellK x1_10 hd11
  have Kx1_11 := Lib.hid (show BlkV w11 gx1 67 (soV x1) from Kx1_10.out.below hd11 Kx1_10.out.lt)
  clear B0c0_10 B0c1_10 R0_10 R1_10 Kx0_10 x0_10 x1_10 Kx1_10
  clear hd11 hL11
  clear hS0 hS1 hS2 hdq0 hdq1 KY
  go_wp2_with fail
  (with_reducible refine (toSourceS_any A1 C1 x1 _ R1_11.out HL1.out).mono ?_)
  rintro e w12 ⟨gy1, rfl, hk12, hg12, hd12⟩
  have HB_12 := Lib.hid (show Below w.heap.size w w12 from HB_11.out.trans (hd12.mono HB_11.out.size))
  have B0c0_12 : w12.cell? ⟨p0, 0, none⟩ = some (.int .i64 a0_0) := cellK B0c0_11 hd12
  have B0c1_12 : w12.cell? ⟨p0, 1, none⟩ = some (.slice A0_1 x0_1.length C0_1) := cellK B0c1_11 hd12
  have R0_12 := Lib.hid (show AwR w12 A0_1 x0_1 from AwR.below R0_11.out hd12)
  have R1_12 := Lib.hid (show SoR w12 A1 x1 from SoR.below R1_11.out hd12)
  have Kx0_12 := Lib.hid (show BlkV w12 gx0 103 (awsV x0_1) from Kx0_11.out.below hd12 Kx0_11.out.lt)
  have x0_12 : w12.cell? ⟨px, 0, none⟩ = some (.int .i64 a0_0) := cellK x0_11 hd12
  have x1_12 : w12.cell? ⟨px, 1, none⟩ = some (.slice (some ⟨gx0, 0, none⟩) x0_1.length x0_1.length) := cellK x1_11 hd12
  have Kx1_12 := Lib.hid (show BlkV w12 gx1 67 (soV x1) from Kx1_11.out.below hd12 Kx1_11.out.lt)
  clear B0c0_11 B0c1_11 R0_11 R1_11 Kx0_11 x0_11 x1_11 Kx1_11
  have Ky1_12 := Lib.hid (show BlkV w12 gy1 67 (soV x1) from hk12)
  clear hk12 hg12
  clear hd12
  go_wp2_with fail
  (with_reducible refine (eqSourceS_same (some ⟨gx1, 0, none⟩) (some ⟨gy1, 0, none⟩) x1.length x1.length x1 _ (Kx1_12.out.soR) (Ky1_12.out.soR) HL1.out).mono ?_)
  rintro e w13 ⟨rfl, hd13⟩
  have HB_13 := Lib.hid (show Below w.heap.size w w13 from HB_12.out.trans (hd13.mono HB_12.out.size))
  have B0c0_13 : w13.cell? ⟨p0, 0, none⟩ = some (.int .i64 a0_0) := cellK B0c0_12 hd13
  have B0c1_13 : w13.cell? ⟨p0, 1, none⟩ = some (.slice A0_1 x0_1.length C0_1) := cellK B0c1_12 hd13
  have R0_13 := Lib.hid (show AwR w13 A0_1 x0_1 from AwR.below R0_12.out hd13)
  have R1_13 := Lib.hid (show SoR w13 A1 x1 from SoR.below R1_12.out hd13)
  have Kx0_13 := Lib.hid (show BlkV w13 gx0 103 (awsV x0_1) from Kx0_12.out.below hd13 Kx0_12.out.lt)
  have x0_13 : w13.cell? ⟨px, 0, none⟩ = some (.int .i64 a0_0) := cellK x0_12 hd13
  have x1_13 : w13.cell? ⟨px, 1, none⟩ = some (.slice (some ⟨gx0, 0, none⟩) x0_1.length x0_1.length) := cellK x1_12 hd13
  have Kx1_13 := Lib.hid (show BlkV w13 gx1 67 (soV x1) from Kx1_12.out.below hd13 Kx1_12.out.lt)
  have Ky1_13 := Lib.hid (show BlkV w13 gy1 67 (soV x1) from Ky1_12.out.below hd13 Ky1_12.out.lt)
  clear B0c0_12 B0c1_12 R0_12 R1_12 Kx0_12 x0_12 x1_12 Kx1_12 Ky1_12
  clear hd13
  go_wp2
  go_ret
  exact ⟨rfl, HB_13.out⟩

set_option maxHeartbeats 1000000 in
set_option maxRecDepth 100000 in
theorem contract (H : Type) (enc : TypeId × Value → H) (W : World) (base : Nat) (args : Array Value) (ds gs : List (DataW H)) (before : List MemPlace)
    (hval : ∀ (j : Nat) t v, Try.f6.params[j]? = some t → args[j]? = some v → Value.okWide Try.prog W .any base t v)
    (hW : DataW.Whole enc Try.prog Try.f6.params.toList Rows.fnExactGasOfSpec.vars false W args.toList ds gs before) :
    Calls Try.prog 6 args W fun e W' => ∃ v, e = .returned v ∧ Rows.fnExactGasOfSpec.post enc Try.prog Try.f6 false true false false W args v W' := by
  have hW' := hW
  obtain ⟨p, q, hA0, hV, rfl, hfz, hnd⟩ := hW
  have hA : DataW.TrodAll enc Try.prog W 0 (fun _ => true) true Try.f6.params.toList args.toList ds p := hA0
  rw [Try.params6] at hA hval
  obtain ⟨v0, vs0, d0, ds0, p0, q0, hargs, rfl, rfl, h0, r0⟩ := trodAll_cons hA
  obtain ⟨v1, vs1, d1, ds1, p1, q1, rfl, rfl, rfl, h1, r1⟩ := trodAll_cons r0
  obtain ⟨v2, vs2, d2, ds2, p2, q2, rfl, rfl, rfl, h2, r2⟩ := trodAll_cons r1
  obtain ⟨rfl, rfl, rfl⟩ := trodAll_nil r2
  obtain rfl : args = #[v0, v1, v2] := by cases args; simp_all
  obtain ⟨rfl, rfl⟩ := trodVars_none hV
  have k0 := h0
  have lt0 : ∀ x ∈ p0, x.block < W.heap.size := by obtain ⟨m, hm⟩ := k0; exact DataW.trod_lt m _ _ _ hm
  obtain ⟨l0, rfl, ll0, hf0⟩ := open_fields Try.underlying24 (by kernel_rfl) (by kernel_rfl) (hval 0 24 v0 rfl rfl) h0
  obtain ⟨c0_0, n0_0, y0_0, e0_0, t0_0⟩ := hf0 0 _ rfl
  obtain ⟨a0_0, q0_0, _, w0_0⟩ := DataW.trod_int Try.underlying2 t0_0
  obtain ⟨c0_1, n0_1, y0_1, e0_1, t0_1⟩ := hf0 1 _ rfl
  obtain ⟨A0_1, C0_1, x0_1, q0_1, l0_1, r0_1, f0_1⟩ := open_aws t0_1
  obtain rfl := List.cons.inj q0_0 |>.1
  obtain rfl := List.cons.inj q0_1 |>.1
  obtain rfl : l0 = [.int .i64 a0_0, .slice A0_1 x0_1.length C0_1] := by
    match l0, ll0, e0_0, e0_1 with
    | [x0, x1], _, z0, z1 => simp at z0 z1; simp [z0, z1]
  obtain ⟨a1, len1, cap1, rfl⟩ := okWide_slice Try.underlying25 (hval 1 25 v1 rfl rfl)
  have k1 := h1
  have lt1 : ∀ x ∈ p1, x.block < W.heap.size := by obtain ⟨m, hm⟩ := k1; exact DataW.trod_lt m _ _ _ hm
  obtain ⟨fu1, ho1⟩ := h1
  obtain ⟨A1, C1, x1, qx1, lx1, rx1, fx1⟩ := open_sos ho1
  simp only [Value.cells] at qx1
  obtain ⟨rfl, rfl, rfl⟩ : a1 = A1 ∧ len1 = x1.length ∧ cap1 = C1 := by simpa using qx1
  obtain ⟨a2, rfl, rfl, rfl, w2⟩ := open_int Try.underlying2 (hval 2 2 v2 rfl rfl) h2
  clear hA0
  refine (walk W a0_0 w0_0 A0_1 C0_1 x0_1 l0_1 r0_1 f0_1 a1 cap1 x1 lx1 rx1 fx1 a2 w2).mono fun e W' ⟨he, bel⟩ => ?_
  subst he
  exact ⟨_, rfl, _, _, _, [], _, [], hW', trodAll_mk1 (shut_bool Try.underlying4 _), (trodAll_cons_mk (Below.trod laidOut (by kernel_rfl) (of_decide_eq_true (by kernel_rfl)) k0 bel lt0) (trodAll_cons_mk (Below.trod laidOut (by kernel_rfl) (of_decide_eq_true (by kernel_rfl)) k1 bel lt1) (trodAll_cons_mk (shut_int Try.underlying2 w2) trodAll_mk0))), rfl, bel.frame _, fun h => by cases h⟩

set_option maxRecDepth 100000 in
theorem lifted (os : Os) (started : os.Started) (H : Type) (enc : TypeId × Value → H) :
    ReturnsInHanded {} Try.checked os 6 .any (Rows.fnExactGasOfSpec.pre6 enc Try.prog Try.f6 Rows.fnExactGasOfRow.domain false) (Rows.fnExactGasOfSpec.post enc Try.prog Try.f6 false true false false) := by
  refine returnsInHanded_of_change (C := Try.checked) own started (by kernel_rfl) Try.func6
    (ChangeSpec.witness6 (enc := enc) (C := Try.checked) false ⟨#[], #[.agg #[.int .i64 0, .slice none 0 0], .slice none 0 0, .int .i64 0], []⟩ 8 (by kernel_rfl) (by kernel_rfl) (by kernel_rfl) (by kernel_rfl)) ?_
  intro W base args ds gs before hval hW hcnd _
  exact contract H enc W base args ds gs before hval hW

set_option maxHeartbeats 4000000 in
theorem facts : joinedFacts Try.pinned.checked.prog 6 Try.f6 Rows.fnExactGasOfSpec Rows.fnExactGasOfRow = true := by
  unfold joinedFacts
  simp only [Bool.and_eq_true]
  repeat' apply And.intro
  all_goals first
    | (with_reducible exact fxMay)
    | (rw [fxLifts]; as_aux_lemma => kernel_rfl)
    | (rw [fxMake]; as_aux_lemma => kernel_rfl)
    | (as_aux_lemma => kernel_rfl)
theorem proved : Rows.FnExactGasOfSaid :=
  OpenClaim.holds_of_wide 6 Try.f6 rfl rfl rfl rfl rfl rfl rfl ⟨rfl, rfl, rfl, rfl, rfl⟩ rfl rfl rfl rfl rfl (by kernel_rfl) Try.func6 facts
    (of_decide_eq_true (by kernel_rfl)) (by unfold Func.isWrapper; first | (rw [if_pos (by decide +kernel)]; kernel_rfl) | (rw [if_neg (by decide +kernel)]; exact ⟨rfl, rfl⟩))
    (fun os started H enc _ => lifted os started H enc)
#print axioms proved
end Go.Proofs.Ythbofhlfggkolaa.fnExactGasOf
