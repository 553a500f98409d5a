/-
  PROVED: for every input the function laws.FnExactOpenDoors returns true and leaves its arguments as they were. Conditions: none.
-/
import Derived.Test.YtddfhjolimkkmaaRows
import Derived.Test.YtddfhjolimkkmaaJw
import Derived.Test.YtddfhjolimkkmaaJb
import Derived.Test.YtddfhjolimkkmaaJc
import Derived.Test.YtddfhjolimkkmaaJo
import Derived.Test.YtddfhjolimkkmaaWe
import Derived.Test.YtddfhjolimkkmaaQl
import Derived.Test.YtddfhjolimkkmaaMk
import Derived.Test.YtddfhjolimkkmaaGg
import Derived.Test.YtddfhjolimkkmaaFx
import Derived.WalkKit
import Derived.ProofKit
import Derived.OpenShut
import Derived.ShutString
import Derived.ChangeOld
import Derived.Below
import Derived.Carry
import Derived.Lib.SmallJoins
import Derived.ChangeArms
namespace Go.Proofs.Ytddfhjolimkkmaa.fnExactOpenDoors
open Go.ChangeShapes Go.WideShapes Go.ChangeAt Go.RowKit
open Go.ChangeMaps (open_string shut_string)
open Go.Joins Go.Deep
set_option linter.unusedVariables false
set_option linter.unusedSimpArgs false

theorem own : ownKnob Try.prog.godebug = none := by kernel_rfl
theorem laidOut : laidOutB Try.prog = true := by kernel_rfl
section
variable {H : Type} {enc : TypeId × Value → H} {P : Program} {w : World} {base : Nat} {spare : Nat → Bool} {held : Bool}
theorem open_fields {r : Reach} {b0 : Nat} {t : TypeId} {fs : Array Field} {v : Value} {d : DataW H} {p : List MemPlace} (hs : P.underlying t = some (.struct fs)) (hone : oneCellFields P fs = true) (hC : P.cellsOf t = fs.size)
    (hv : Value.okWide P w r b0 t v) (h : DataW.Trod enc P w base spare held t v d p) :
    ∃ l : List Value, v = .agg ⟨l⟩ ∧ l.length = fs.size ∧ ∀ (j : Nat) (f : Field), fs[j]? = some f → ∃ (c : Value) (n : Nat) (y : DataW H × List MemPlace), l[j]? = some c ∧ DataW.trod enc P w base spare held n f.type [c] = some y := by
  obtain ⟨cs, rfl, hsz⟩ := okWide_struct hs hv
  obtain ⟨l⟩ := cs
  obtain ⟨fuel, hf⟩ := h
  obtain ⟨xs, n, _, _, _, hlen, hg⟩ := DataW.trod_struct hs hf
  have hl : l.length = fs.size := by simpa using hsz.trans hC
  refine ⟨l, rfl, hl, fun j f hj => ?_⟩
  obtain ⟨o, k⟩ := hone_of hone j f hj
  have hjf : j < fs.size := (Array.getElem?_eq_some_iff.1 hj).1
  have hjl : j < l.length := by omega
  have h1 := hg j f hj
  rw [o, k] at h1
  have e : (l.drop j).take 1 = [l[j]] := by
    rw [List.drop_eq_getElem_cons hjl]; rfl
  replace h1 : DataW.trod enc P w base spare held n f.type ((l.drop j).take 1) = xs[j]? := by simpa [Value.cells] using h1
  rw [e] at h1
  have hx : xs[j]? = some (xs[j]'(by omega)) := List.getElem?_eq_getElem (by omega)
  exact ⟨l[j], _, _, List.getElem?_eq_getElem hjl, h1.trans hx⟩
end
set_option maxHeartbeats 4000000 in

theorem walk (w : World) (a0_0 : Int) (w0_0 : (Lit.int .i64 a0_0).wf = true) (A0_1 : Option Addr) (C0_1 : Nat) (x0_1 : List Aw) (l0_1 : x0_1.length ≤ maxLen) (r0_1 : AwR w A0_1 x0_1) (f0_1 : ∀ a ∈ x0_1, a.fits) (A1 : Option Addr) (C1 : Nat) (x1 : List Do) (l1 : x1.length ≤ maxLen) (r1 : DoR w A1 x1) (f1 : ∀ a ∈ x1, a.fits) (A2 : Option Addr) (C2 : Nat) (x2 : List Bool) (l2 : x2.length ≤ maxLen) (r2 : BoR w A2 x2) (f2 : True) :
    Calls Try.prog 5 #[.agg #[.int .i64 a0_0, .slice A0_1 x0_1.length C0_1], .slice A1 x1.length C1, .slice A2 x2.length C2] w fun e w' => e = .returned (.bool true) ∧ Below w.heap.size w w' := by
  have HLL0 := Lib.hid l0_1
  have HR0 := Lib.hid r0_1
  have S0 := Lib.hid (fun a ha => (f0_1 a ha).1)
  clear r0_1
  have HLL1 := Lib.hid l1
  have HR1 := Lib.hid r1
  have S1 := Lib.hid (fun a ha => (f1 a ha).1)
  clear r1
  have HLL2 := Lib.hid l2
  have HR2 := Lib.hid r2
  clear r2
  by_cases hlong2 : 1048576 < x2.length
  · have t1 : (1048576 : Int) < (x2.length : Int) := by omega
    go_enter Try.func5, Try.ntmps5
    go_wp2
    go_ret
    exact ⟨rfl, below_box _ _⟩
  have HL2 := Lib.hid (show x2.length ≤ 1048576 by omega)
  have t1_2 : ¬ (1048576 : Int) < (x2.length : Int) := by omega
  have t2_2 : decide ((1048576 : Int) < (x2.length : Int)) = false := decide_eq_false t1_2
  clear hlong2
  by_cases hs0 : szL 1048576 x0_1 < 0
  · skip
    go_enter Try.func5, Try.ntmps5
    go_wp2_with fail
    obtain ⟨w1, hL1⟩ : ∃ x, x = (w.alloc (.cells #[.int .i64 a0_0, .slice A0_1 x0_1.length C0_1] 31)) := ⟨_, rfl⟩
    have hd1 : Below w.heap.size w w1 := hL1 ▸ below_box _ _
    rw [← hL1]
    obtain ⟨p0, hp0⟩ : ∃ p, p = w.heap.size := ⟨_, rfl⟩
    rw [← hp0]
    have HB_1 := Lib.hid (show Below w.heap.size w w1 from hd1)
    have B0c0_1 : w1.cell? ⟨p0, 0, none⟩ = some (.int .i64 a0_0) := (by rw [hL1, hp0]; simp)
    have B0c1_1 : w1.cell? ⟨p0, 1, none⟩ = some (.slice A0_1 x0_1.length C0_1) := (by rw [hL1, hp0]; simp)
    have R0_1 := Lib.hid (show AwR w1 A0_1 x0_1 from HR0.out.below hd1)
    have R1_1 := Lib.hid (show DoR w1 A1 x1 from HR1.out.below hd1)
    have R2_1 := Lib.hid (show BoR w1 A2 x2 from HR2.out.below hd1)
    clear hd1 hL1 hp0
    go_wp2_with fail
    (with_reducible refine (szMine_any a0_0 A0_1 C0_1 x0_1 (1048576) _ R0_1.out S0.out HLL0.out (by omega)).mono ?_)
    rintro e w2 ⟨rfl, hd2⟩
    have HB_2 := Lib.hid (show Below w.heap.size w w2 from HB_1.out.trans (hd2.mono HB_1.out.size))
    have B0c0_2 : w2.cell? ⟨p0, 0, none⟩ = some (.int .i64 a0_0) := cellK B0c0_1 hd2
    have B0c1_2 : w2.cell? ⟨p0, 1, none⟩ = some (.slice A0_1 x0_1.length C0_1) := cellK B0c1_1 hd2
    have R0_2 := Lib.hid (show AwR w2 A0_1 x0_1 from AwR.below R0_1.out hd2)
    have R1_2 := Lib.hid (show DoR w2 A1 x1 from DoR.below R1_1.out hd2)
    have R2_2 := Lib.hid (show BoR w2 A2 x2 from BoR.below R2_1.out hd2)
    clear B0c0_1 B0c1_1 R0_1 R1_1 R2_1
    clear hd2
    go_wp2
    go_ret
    exact ⟨rfl, HB_2.out⟩
  have HL0 := Lib.hid (show x0_1.length ≤ 1048576 from by have h8 := (szL_bd (left := 1048576) (by omega) (Int.not_lt.1 hs0)).1; omega)
  have HLB1 := Lib.hid (show 0 ≤ szL 1048576 x0_1 ∧ szL 1048576 x0_1 ≤ 1048576 from by
    have h1 := Int.not_lt.1 hs0
    have h2 := (szL_le (left := 1048576) (xs := x0_1) (by omega)).2
    omega)
  by_cases hs1 : szLDo (szL 1048576 x0_1) x1 < 0
  · skip
    go_enter Try.func5, Try.ntmps5
    go_wp2_with fail
    obtain ⟨w1, hL1⟩ : ∃ x, x = (w.alloc (.cells #[.int .i64 a0_0, .slice A0_1 x0_1.length C0_1] 31)) := ⟨_, rfl⟩
    have hd1 : Below w.heap.size w w1 := hL1 ▸ below_box _ _
    rw [← hL1]
    obtain ⟨p0, hp0⟩ : ∃ p, p = w.heap.size := ⟨_, rfl⟩
    rw [← hp0]
    have HB_1 := Lib.hid (show Below w.heap.size w w1 from hd1)
    have B0c0_1 : w1.cell? ⟨p0, 0, none⟩ = some (.int .i64 a0_0) := (by rw [hL1, hp0]; simp)
    have B0c1_1 : w1.cell? ⟨p0, 1, none⟩ = some (.slice A0_1 x0_1.length C0_1) := (by rw [hL1, hp0]; simp)
    have R0_1 := Lib.hid (show AwR w1 A0_1 x0_1 from HR0.out.below hd1)
    have R1_1 := Lib.hid (show DoR w1 A1 x1 from HR1.out.below hd1)
    have R2_1 := Lib.hid (show BoR w1 A2 x2 from HR2.out.below hd1)
    clear hd1 hL1 hp0
    go_wp2_with fail
    (with_reducible refine (szMine_any a0_0 A0_1 C0_1 x0_1 (1048576) _ R0_1.out S0.out HLL0.out (by omega)).mono ?_)
    rintro e w2 ⟨rfl, hd2⟩
    have HB_2 := Lib.hid (show Below w.heap.size w w2 from HB_1.out.trans (hd2.mono HB_1.out.size))
    have B0c0_2 : w2.cell? ⟨p0, 0, none⟩ = some (.int .i64 a0_0) := cellK B0c0_1 hd2
    have B0c1_2 : w2.cell? ⟨p0, 1, none⟩ = some (.slice A0_1 x0_1.length C0_1) := cellK B0c1_1 hd2
    have R0_2 := Lib.hid (show AwR w2 A0_1 x0_1 from AwR.below R0_1.out hd2)
    have R1_2 := Lib.hid (show DoR w2 A1 x1 from DoR.below R1_1.out hd2)
    have R2_2 := Lib.hid (show BoR w2 A2 x2 from BoR.below R2_1.out hd2)
    clear B0c0_1 B0c1_1 R0_1 R1_1 R2_1
    clear hd2
    go_wp2_with fail
    (with_reducible refine (szDoorS_any A1 C1 x1 (szL 1048576 x0_1) _ R1_2.out S1.out HLL1.out HLB1.out).mono ?_)
    rintro e w3 ⟨rfl, hd3⟩
    have HB_3 := Lib.hid (show Below w.heap.size w w3 from HB_2.out.trans (hd3.mono HB_2.out.size))
    have B0c0_3 : w3.cell? ⟨p0, 0, none⟩ = some (.int .i64 a0_0) := cellK B0c0_2 hd3
    have B0c1_3 : w3.cell? ⟨p0, 1, none⟩ = some (.slice A0_1 x0_1.length C0_1) := cellK B0c1_2 hd3
    have R0_3 := Lib.hid (show AwR w3 A0_1 x0_1 from AwR.below R0_2.out hd3)
    have R1_3 := Lib.hid (show DoR w3 A1 x1 from DoR.below R1_2.out hd3)
    have R2_3 := Lib.hid (show BoR w3 A2 x2 from BoR.below R2_2.out hd3)
    clear B0c0_2 B0c1_2 R0_2 R1_2 R2_2
    clear hd3
    go_wp2
    go_ret
    exact ⟨rfl, HB_3.out⟩
  have HL1 := Lib.hid (show x1.length ≤ 1048576 from by have h9 := HLB1.out.2; have h8 := (szLDo_bd (left := (szL 1048576 x0_1)) HLB1.out.1 (Int.not_lt.1 hs1)).1; omega)
  have HLN := Lib.hid (show (odL a0_0 x0_1 x1 x2).length ≤ 1048576 from Nat.le_trans (odL_len _ _ _ _) HL0.out)
  have ca0_0 : (w.alloc (.cells #[.int .i64 a0_0, .slice A0_1 x0_1.length C0_1] 31)).cell? ⟨w.heap.size, 0, none⟩ = some (.int .i64 a0_0) := by simp
  have ca1_0 : (w.alloc (.cells #[.int .i64 a0_0, .slice A0_1 x0_1.length C0_1] 31)).cell? ⟨w.heap.size, 1, none⟩ = some (.slice A0_1 x0_1.length C0_1) := by simp
  have hzA : w.heap.size < (w.alloc (.cells #[.int .i64 a0_0, .slice A0_1 x0_1.length C0_1] 31)).heap.size := by simp
  have HB0 := Lib.hid (show Below w.heap.size w (w.alloc (.cells #[.int .i64 a0_0, .slice A0_1 x0_1.length C0_1] 31)) from below_box w _)
  go_enter Try.func5, Try.ntmps5
  go_wp2_with fail
  generalize (w.alloc (.cells #[.int .i64 a0_0, .slice A0_1 x0_1.length C0_1] 31)) = W0 at *
  go_wp2_with fail
  (with_reducible refine (szMine_any a0_0 A0_1 C0_1 x0_1 (1048576) _ (HR0.out.below HB0.out) S0.out HLL0.out (by omega)).mono ?_)
  rintro e W1 ⟨rfl, hd⟩
  have B1 := Lib.hid (show Below W0.heap.size W0 W1 from hd)
  have HB1 := Lib.hid (HB0.out.trans (B1.out.mono HB0.out.size))
  have hs_1 : W0.heap.size ≤ W1.heap.size := B1.out.size
  have ca0_1 := cellK1 ca0_0 B1.out
  have ca1_1 := cellK1 ca1_0 B1.out
  clear ca0_0 ca1_0
  try clear hd
  go_wp2_with fail
  (with_reducible refine (szDoorS_any A1 C1 x1 (szL 1048576 x0_1) _ (HR1.out.below HB1.out) S1.out HLL1.out HLB1.out).mono ?_)
  rintro e W2 ⟨rfl, hd⟩
  have B2 := Lib.hid (show Below W1.heap.size W1 W2 from hd)
  have HB2 := Lib.hid (HB1.out.trans (B2.out.mono HB1.out.size))
  have hs_2 : W1.heap.size ≤ W2.heap.size := B2.out.size
  have ca0_2 := cellK1 ca0_1 B2.out
  have ca1_2 := cellK1 ca1_1 B2.out
  clear ca0_1 ca1_1
  try clear hd
  go_wp2_with fail
  (with_reducible refine (toMine_any a0_0 A0_1 C0_1 x0_1 _ (HR0.out.below HB2.out) HL0.out).mono ?_)
  rintro e W3 ⟨gs0, rfl, hk, hgs0, hd⟩
  have B3 := Lib.hid (show Below W2.heap.size W2 W3 from hd)
  have HB3 := Lib.hid (HB2.out.trans (B3.out.mono HB2.out.size))
  have hs_3 : W2.heap.size ≤ W3.heap.size := B3.out.size
  have ca0_3 := cellK1 ca0_2 B3.out
  have ca1_3 := cellK1 ca1_2 B3.out
  clear ca0_2 ca1_2
  have Ks0_3 := Lib.hid hk
  clear hk
  try clear hd
  go_wp2_with fail
  (with_reducible refine (toDoorS_any A1 C1 x1 _ (HR1.out.below HB3.out) HL1.out).mono ?_)
  rintro e W4 ⟨gs1, rfl, hk, hgs1, hd⟩
  have B4 := Lib.hid (show Below W3.heap.size W3 W4 from hd)
  have HB4 := Lib.hid (HB3.out.trans (B4.out.mono HB3.out.size))
  have hs_4 : W3.heap.size ≤ W4.heap.size := B4.out.size
  have ca0_4 := cellK1 ca0_3 B4.out
  have ca1_4 := cellK1 ca1_3 B4.out
  clear ca0_3 ca1_3
  have Ks0_4 := Lib.hid (Ks0_3.out.below B4.out Ks0_3.out.lt)
  have Ks1_4 := Lib.hid hk
  clear hk
  try clear hd
  go_wp2_with fail
  (with_reducible refine (toBoolS_own A2 C2 x2 _ (HR2.out.below HB4.out) HL2.out).mono ?_)
  rintro e W5 ⟨gs2, rfl, ho, hd⟩
  have B5 := Lib.hid (show Below W4.heap.size W4 W5 from hd)
  have HB5 := Lib.hid (HB4.out.trans (B5.out.mono HB4.out.size))
  have hs_5 : W4.heap.size ≤ W5.heap.size := B5.out.size
  have ca0_5 := cellK1 ca0_4 B5.out
  have ca1_5 := cellK1 ca1_4 B5.out
  clear ca0_4 ca1_4
  have Ks0_5 := Lib.hid (Ks0_4.out.below B5.out Ks0_4.out.lt)
  have Ks1_5 := Lib.hid (Ks1_4.out.below B5.out Ks1_4.out.lt)
  have Os2_5 := Lib.hid ho
  clear ho
  try clear hd
  go_wp2_with fail
  (with_reducible refine (sOpenDoors_any a0_0 (some ⟨gs0, 0, none⟩) x0_1.length x0_1 (some ⟨gs1, 0, none⟩) x1.length x1 (some ⟨gs2, 0, none⟩) x2.length x2 _ Ks0_5.out.awr S0.out HL0.out Ks1_5.out.doR S1.out HL1.out (ownB_read Os2_5.out) HL2.out).mono ?_)
  rintro e W6 ⟨vw, rfl, ho, hd⟩
  have B6 := Lib.hid (show Below W5.heap.size W5 W6 from hd)
  have HB6 := Lib.hid (HB5.out.trans (B6.out.mono HB5.out.size))
  have hs_6 : W5.heap.size ≤ W6.heap.size := B6.out.size
  have ca0_6 := cellK1 ca0_5 B6.out
  have ca1_6 := cellK1 ca1_5 B6.out
  clear ca0_5 ca1_5
  have Os2_6 := Lib.hid (Os2_5.out.below B6.out)
  have Ks0_6 := Lib.hid (Ks0_5.out.below B6.out Ks0_5.out.lt)
  have Ks1_6 := Lib.hid (Ks1_5.out.below B6.out Ks1_5.out.lt)
  have Ow_6 := Lib.hid ho
  clear ho
  try clear hd
  go_wp2_with fail
  (with_reducible refine (toMine_any a0_0 A0_1 C0_1 x0_1 _ (HR0.out.below HB6.out) HL0.out).mono ?_)
  rintro e W7 ⟨gx0, rfl, hk, hgx0, hd⟩
  have B7 := Lib.hid (show Below W6.heap.size W6 W7 from hd)
  have HB7 := Lib.hid (HB6.out.trans (B7.out.mono HB6.out.size))
  have hs_7 : W6.heap.size ≤ W7.heap.size := B7.out.size
  have ca0_7 := cellK1 ca0_6 B7.out
  have ca1_7 := cellK1 ca1_6 B7.out
  clear ca0_6 ca1_6
  have Ow_7 := Lib.hid (Ow_6.out.below B7.out)
  have Kx0_7 := Lib.hid hk
  clear hk
  try clear hd
  have cx0_8 : (W7.alloc (.cells #[.int .i64 a0_0, .slice (some ⟨gx0, 0, none⟩) x0_1.length x0_1.length] 38)).cell? ⟨W7.heap.size, 0, none⟩ = some (.int .i64 a0_0) := by simp
  have cx1_8 : (W7.alloc (.cells #[.int .i64 a0_0, .slice (some ⟨gx0, 0, none⟩) x0_1.length x0_1.length] 38)).cell? ⟨W7.heap.size, 1, none⟩ = some (.slice (some ⟨gx0, 0, none⟩) x0_1.length x0_1.length) := by simp
  have B8 := Lib.hid (below_box W7 (.cells #[.int .i64 a0_0, .slice (some ⟨gx0, 0, none⟩) x0_1.length x0_1.length] 38))
  have HB8 := Lib.hid (HB7.out.trans (B8.out.mono HB7.out.size))
  have hs_8 : W7.heap.size < (W7.alloc (.cells #[.int .i64 a0_0, .slice (some ⟨gx0, 0, none⟩) x0_1.length x0_1.length] 38)).heap.size := by simp
  have ca0_8 := cellK1 ca0_7 B8.out
  have ca1_8 := cellK1 ca1_7 B8.out
  clear ca0_7 ca1_7
  have Ow_8 := Lib.hid (Ow_7.out.below B8.out)
  have Kx0_8 := Lib.hid (Kx0_7.out.below B8.out Kx0_7.out.lt)
  go_wp2_with fail
  generalize W7.alloc (.cells #[.int .i64 a0_0, .slice (some ⟨gx0, 0, none⟩) x0_1.length x0_1.length] 38) = W8 at *
  go_wp2_with fail
  (with_reducible refine (toDoorS_any A1 C1 x1 _ (HR1.out.below HB8.out) HL1.out).mono ?_)
  rintro e W9 ⟨gx1, rfl, hk, hgx1, hd⟩
  have B9 := Lib.hid (show Below W8.heap.size W8 W9 from hd)
  have HB9 := Lib.hid (HB8.out.trans (B9.out.mono HB8.out.size))
  have hs_9 : W8.heap.size ≤ W9.heap.size := B9.out.size
  have ca0_9 := cellK1 ca0_8 B9.out
  have ca1_9 := cellK1 ca1_8 B9.out
  have cx0_9 := cellK1 cx0_8 B9.out
  have cx1_9 := cellK1 cx1_8 B9.out
  clear ca0_8 ca1_8 cx0_8 cx1_8
  have Ow_9 := Lib.hid (Ow_8.out.below B9.out)
  have Kx0_9 := Lib.hid (Kx0_8.out.below B9.out Kx0_8.out.lt)
  have Kx1_9 := Lib.hid hk
  clear hk
  try clear hd
  go_wp2_with fail
  (with_reducible refine (toBoolS_own A2 C2 x2 _ (HR2.out.below HB9.out) HL2.out).mono ?_)
  rintro e W10 ⟨gx2, rfl, ho, hd⟩
  have B10 := Lib.hid (show Below W9.heap.size W9 W10 from hd)
  have HB10 := Lib.hid (HB9.out.trans (B10.out.mono HB9.out.size))
  have hs_10 : W9.heap.size ≤ W10.heap.size := B10.out.size
  have ca0_10 := cellK1 ca0_9 B10.out
  have ca1_10 := cellK1 ca1_9 B10.out
  have cx0_10 := cellK1 cx0_9 B10.out
  have cx1_10 := cellK1 cx1_9 B10.out
  clear ca0_9 ca1_9 cx0_9 cx1_9
  have Ow_10 := Lib.hid (Ow_9.out.below B10.out)
  have Kx0_10 := Lib.hid (Kx0_9.out.below B10.out Kx0_9.out.lt)
  have Kx1_10 := Lib.hid (Kx1_9.out.below B10.out Kx1_9.out.lt)
  have Ox2_10 := Lib.hid ho
  clear ho
  try clear hd
  go_wp2_with fail
  (with_reducible refine (iOpenDoors_any a0_0 (some ⟨gx0, 0, none⟩) x0_1.length x0_1 (some ⟨gx1, 0, none⟩) x1.length x1 (some ⟨gx2, 0, none⟩) x2.length x2 _ Kx0_10.out.awr S0.out HL0.out Kx1_10.out.doR S1.out HL1.out (ownB_read Ox2_10.out) HL2.out).mono ?_)
  rintro e W11 ⟨vg, rfl, ho, hd⟩
  have B11 := Lib.hid (show Below W10.heap.size W10 W11 from hd)
  have HB11 := Lib.hid (HB10.out.trans (B11.out.mono HB10.out.size))
  have hs_11 : W10.heap.size ≤ W11.heap.size := B11.out.size
  have ca0_11 := cellK1 ca0_10 B11.out
  have ca1_11 := cellK1 ca1_10 B11.out
  have cx0_11 := cellK1 cx0_10 B11.out
  have cx1_11 := cellK1 cx1_10 B11.out
  clear ca0_10 ca1_10 cx0_10 cx1_10
  have Ow_11 := Lib.hid (Ow_10.out.below B11.out)
  have Ox2_11 := Lib.hid (Ox2_10.out.below B11.out)
  have Kx0_11 := Lib.hid (Kx0_10.out.below B11.out Kx0_10.out.lt)
  have Kx1_11 := Lib.hid (Kx1_10.out.below B11.out Kx1_10.out.lt)
  have Og_11 := Lib.hid ho
  clear ho
  try clear hd
  go_wp2_with fail
  (with_reducible refine (eqInt64S_w vg vw (odL a0_0 x0_1 x1 x2) _ (RowW.of_ownI Og_11.out) (RowW.of_ownI Ow_11.out) (by have := HLN.out; omega)).mono ?_)
  rintro e W12 ⟨rfl, n12, hn⟩
  have B12 := Lib.hid (show Below W11.heap.size W11 W12 from hn ▸ below_drewN (Below.refl _ _) n12)
  have HB12 := Lib.hid (HB11.out.trans (B12.out.mono HB11.out.size))
  have hs_12 : W11.heap.size ≤ W12.heap.size := B12.out.size
  have ca0_12 := cellK1 ca0_11 B12.out
  have ca1_12 := cellK1 ca1_11 B12.out
  have cx0_12 := cellK1 cx0_11 B12.out
  have cx1_12 := cellK1 cx1_11 B12.out
  clear ca0_11 ca1_11 cx0_11 cx1_11
  have Ow_12 := Lib.hid (Ow_11.out.below B12.out)
  have Ox2_12 := Lib.hid (Ox2_11.out.below B12.out)
  have Og_12 := Lib.hid (Og_11.out.below B12.out)
  have Kx0_12 := Lib.hid (Kx0_11.out.below B12.out Kx0_11.out.lt)
  have Kx1_12 := Lib.hid (Kx1_11.out.below B12.out Kx1_11.out.lt)
  clear hn
  try clear hd
  go_wp2_with fail
  refine wp_region_held (S := fun w' => ((w'.cell? ⟨W7.heap.size, 0, none⟩ = some (.int .i64 a0_0) ∧ w'.cell? ⟨W7.heap.size, 1, none⟩ = some (.slice (some ⟨gx0, 0, none⟩) x0_1.length x0_1.length)) ∧ (w'.cell? ⟨w.heap.size, 0, none⟩ = some (.int .i64 a0_0) ∧ w'.cell? ⟨w.heap.size, 1, none⟩ = some (.slice A0_1 x0_1.length C0_1))) ∧ Below W12.heap.size W12 w') (by kernel_rfl) ?_
  try (change wpAnyH _ _ _ _ _ _ _ _ (World.drew _))
  have hS0 := (show ((W12.drew.cell? ⟨W7.heap.size, 0, none⟩ = some (.int .i64 a0_0) ∧ W12.drew.cell? ⟨W7.heap.size, 1, none⟩ = some (.slice (some ⟨gx0, 0, none⟩) x0_1.length x0_1.length)) ∧ (W12.drew.cell? ⟨w.heap.size, 0, none⟩ = some (.int .i64 a0_0) ∧ W12.drew.cell? ⟨w.heap.size, 1, none⟩ = some (.slice A0_1 x0_1.length C0_1))) ∧ Below W12.heap.size W12 W12.drew from ⟨⟨⟨cx0_12, cx1_12⟩, ca0_12, ca1_12⟩, Below.drew (Below.refl _ _)⟩)
  refine gTake 0 (v := ?_) rfl (by kernel_rfl) (by kernel_rfl) (by kernel_rfl) (fun _ _ _ h => h) (by kernel_rfl) ?_ hS0 ?_
  rotate_left
  · (intro W hW; have q0 := hW.1.1.1; have q1 := hW.1.1.2; have q2 := hW.1.2.1; have q3 := hW.1.2.2; clear hW; go_simp; try with_reducible rfl)
  refine gTake 1 (v := ?_) rfl (by kernel_rfl) (by kernel_rfl) (by kernel_rfl) (fun _ _ _ h => h) (by kernel_rfl) ?_ hS0 ?_
  rotate_left
  · (intro W hW; have q0 := hW.1.1.1; have q1 := hW.1.1.2; have q2 := hW.1.2.1; have q3 := hW.1.2.2; clear hW; go_simp; try with_reducible rfl)
  refine gOne 2 rfl (by kernel_rfl) (by kernel_rfl) (fun K hK => ?_)
  go_simp
  go_at_call 24
  (with_reducible refine (toMine_any a0_0 A0_1 C0_1 x0_1 _ (HR0.out.below (HB12.out.trans (hS0.2.mono HB12.out.size))) HL0.out).mono ?_)
  rintro e W13 ⟨gy, rfl, hk, hgy, hd⟩
  have KY := Lib.hid hk
  clear hk hgy
  try go_simp
  have hS1 := (show ((W13.cell? ⟨W7.heap.size, 0, none⟩ = some (.int .i64 a0_0) ∧ W13.cell? ⟨W7.heap.size, 1, none⟩ = some (.slice (some ⟨gx0, 0, none⟩) x0_1.length x0_1.length)) ∧ (W13.cell? ⟨w.heap.size, 0, none⟩ = some (.int .i64 a0_0) ∧ W13.cell? ⟨w.heap.size, 1, none⟩ = some (.slice A0_1 x0_1.length C0_1))) ∧ Below W12.heap.size W12 W13 from ⟨⟨⟨cellK1 hS0.1.1.1 hd, cellK1 hS0.1.1.2 hd⟩, cellK1 hS0.1.2.1 hd, cellK1 hS0.1.2.2 hd⟩, hS0.2.trans (hd.mono hS0.2.size)⟩)
  refine hK _ _ hS1 ?_
  clear hK K
  refine gOne 3 rfl (by kernel_rfl) (by kernel_rfl) (fun K hK => ?_)
  go_simp
  go_at_call 27
  (with_reducible refine (eqMine_same a0_0 (some ⟨gx0, 0, none⟩) (some ⟨gy, 0, none⟩) x0_1.length x0_1.length x0_1 _ (Kx0_12.out.awr.below hS1.2) KY.out.awr HL0.out).mono ?_)
  rintro e W14 ⟨rfl, hd2⟩
  try go_simp
  have hS2 := (show ((W14.cell? ⟨W7.heap.size, 0, none⟩ = some (.int .i64 a0_0) ∧ W14.cell? ⟨W7.heap.size, 1, none⟩ = some (.slice (some ⟨gx0, 0, none⟩) x0_1.length x0_1.length)) ∧ (W14.cell? ⟨w.heap.size, 0, none⟩ = some (.int .i64 a0_0) ∧ W14.cell? ⟨w.heap.size, 1, none⟩ = some (.slice A0_1 x0_1.length C0_1))) ∧ Below W12.heap.size W12 W14 from ⟨⟨⟨cellK1 hS1.1.1.1 hd2, cellK1 hS1.1.1.2 hd2⟩, cellK1 hS1.1.2.1 hd2, cellK1 hS1.1.2.2 hd2⟩, hS1.2.trans (hd2.mono hS1.2.size)⟩)
  refine hK _ _ hS2 ?_
  clear hK K
  refine gTake 4 (v := ?_) rfl (by kernel_rfl) (by kernel_rfl) (by kernel_rfl) (fun _ _ _ h => h) (by kernel_rfl) ?_ hS2 ?_
  rotate_left
  · (intro W hW; clear hW; go_simp; try with_reducible rfl)
  refine wpAnyH_done (by kernel_rfl) ?_ _
  go_simp
  have B14 := Lib.hid (show Below W12.heap.size W12 W14 from hS2.2)
  have HB14 := Lib.hid (HB12.out.trans (B14.out.mono HB12.out.size))
  have hs_14 : W12.heap.size ≤ W14.heap.size := B14.out.size
  have ca0_14 := cellK1 ca0_12 B14.out
  have ca1_14 := cellK1 ca1_12 B14.out
  have cx0_14 := cellK1 cx0_12 B14.out
  have cx1_14 := cellK1 cx1_12 B14.out
  clear ca0_12 ca1_12 cx0_12 cx1_12
  have Ow_14 := Lib.hid (Ow_12.out.below B14.out)
  have Ox2_14 := Lib.hid (Ox2_12.out.below B14.out)
  have Og_14 := Lib.hid (Og_12.out.below B14.out)
  have Kx0_14 := Lib.hid (Kx0_12.out.below B14.out Kx0_12.out.lt)
  have Kx1_14 := Lib.hid (Kx1_12.out.below B14.out Kx1_12.out.lt)
  clear hS0 hS1 hS2 hd hd2 KY
  go_wp2_with fail
  (with_reducible refine (toDoorS_any A1 C1 x1 _ (HR1.out.below HB14.out) HL1.out).mono ?_)
  rintro e W15 ⟨gb1, rfl, hk, hgb1, hd⟩
  have B15 := Lib.hid (show Below W14.heap.size W14 W15 from hd)
  have HB15 := Lib.hid (HB14.out.trans (B15.out.mono HB14.out.size))
  have hs_15 : W14.heap.size ≤ W15.heap.size := B15.out.size
  have ca0_15 := cellK1 ca0_14 B15.out
  have ca1_15 := cellK1 ca1_14 B15.out
  have cx0_15 := cellK1 cx0_14 B15.out
  have cx1_15 := cellK1 cx1_14 B15.out
  clear ca0_14 ca1_14 cx0_14 cx1_14
  have Ow_15 := Lib.hid (Ow_14.out.below B15.out)
  have Ox2_15 := Lib.hid (Ox2_14.out.below B15.out)
  have Og_15 := Lib.hid (Og_14.out.below B15.out)
  have Kx0_15 := Lib.hid (Kx0_14.out.below B15.out Kx0_14.out.lt)
  have Kx1_15 := Lib.hid (Kx1_14.out.below B15.out Kx1_14.out.lt)
  have Kb1_15 := Lib.hid hk
  clear hk
  try clear hd
  go_wp2_with fail
  (with_reducible refine (eqDoorS_same (some ⟨gx1, 0, none⟩) (some ⟨gb1, 0, none⟩) x1.length x1.length x1 _ Kx1_15.out.doR Kb1_15.out.doR HL1.out).mono ?_)
  rintro e W16 ⟨rfl, hd⟩
  have B16 := Lib.hid (show Below W15.heap.size W15 W16 from hd)
  have HB16 := Lib.hid (HB15.out.trans (B16.out.mono HB15.out.size))
  have hs_16 : W15.heap.size ≤ W16.heap.size := B16.out.size
  have ca0_16 := cellK1 ca0_15 B16.out
  have ca1_16 := cellK1 ca1_15 B16.out
  have cx0_16 := cellK1 cx0_15 B16.out
  have cx1_16 := cellK1 cx1_15 B16.out
  clear ca0_15 ca1_15 cx0_15 cx1_15
  have Ow_16 := Lib.hid (Ow_15.out.below B16.out)
  have Ox2_16 := Lib.hid (Ox2_15.out.below B16.out)
  have Og_16 := Lib.hid (Og_15.out.below B16.out)
  have Kx0_16 := Lib.hid (Kx0_15.out.below B16.out Kx0_15.out.lt)
  have Kx1_16 := Lib.hid (Kx1_15.out.below B16.out Kx1_15.out.lt)
  have Kb1_16 := Lib.hid (Kb1_15.out.below B16.out Kb1_15.out.lt)
  try clear hd
  go_wp2_with fail
  (with_reducible refine (toBoolS_own A2 C2 x2 _ (HR2.out.below HB16.out) HL2.out).mono ?_)
  rintro e W17 ⟨gb2, rfl, ho, hd⟩
  have B17 := Lib.hid (show Below W16.heap.size W16 W17 from hd)
  have HB17 := Lib.hid (HB16.out.trans (B17.out.mono HB16.out.size))
  have hs_17 : W16.heap.size ≤ W17.heap.size := B17.out.size
  have ca0_17 := cellK1 ca0_16 B17.out
  have ca1_17 := cellK1 ca1_16 B17.out
  have cx0_17 := cellK1 cx0_16 B17.out
  have cx1_17 := cellK1 cx1_16 B17.out
  clear ca0_16 ca1_16 cx0_16 cx1_16
  have Ow_17 := Lib.hid (Ow_16.out.below B17.out)
  have Ox2_17 := Lib.hid (Ox2_16.out.below B17.out)
  have Og_17 := Lib.hid (Og_16.out.below B17.out)
  have Kx0_17 := Lib.hid (Kx0_16.out.below B17.out Kx0_16.out.lt)
  have Kx1_17 := Lib.hid (Kx1_16.out.below B17.out Kx1_16.out.lt)
  have Ob2_17 := Lib.hid ho
  clear ho
  try clear hd
  go_wp2_with fail
  (with_reducible refine (eqBoolS_same (some ⟨gx2, 0, none⟩) (some ⟨gb2, 0, none⟩) x2.length x2.length x2 _ (ownB_read Ox2_17.out) (ownB_read Ob2_17.out) HL2.out).mono ?_)
  rintro e W18 ⟨rfl, hd⟩
  have B18 := Lib.hid (show Below W17.heap.size W17 W18 from hd)
  have HB18 := Lib.hid (HB17.out.trans (B18.out.mono HB17.out.size))
  have hs_18 : W17.heap.size ≤ W18.heap.size := B18.out.size
  have ca0_18 := cellK1 ca0_17 B18.out
  have ca1_18 := cellK1 ca1_17 B18.out
  have cx0_18 := cellK1 cx0_17 B18.out
  have cx1_18 := cellK1 cx1_17 B18.out
  clear ca0_17 ca1_17 cx0_17 cx1_17
  have Ow_18 := Lib.hid (Ow_17.out.below B18.out)
  have Ox2_18 := Lib.hid (Ox2_17.out.below B18.out)
  have Og_18 := Lib.hid (Og_17.out.below B18.out)
  have Ob2_18 := Lib.hid (Ob2_17.out.below B18.out)
  have Kx0_18 := Lib.hid (Kx0_17.out.below B18.out Kx0_17.out.lt)
  have Kx1_18 := Lib.hid (Kx1_17.out.below B18.out Kx1_17.out.lt)
  try clear hd
  go_wp2_with fail
  have hml0 : x0_1.length ≤ 1048576 := HL0.out
  (with_reducible refine (markMine_any a0_0 gx0 x0_1.length 1 (awsV x0_1) _ Kx0_18.out (awsV_len x0_1) HL0.out (by omega)).mono ?_)
  rintro e W19 ⟨rfl, hg⟩
  have G19 := Lib.hid hg
  clear hg
  have hs_19 : W18.heap.size ≤ W19.heap.size := G19.out.size
  have HB19 := Lib.hid (Below.grown HB18.out G19.out HB18.out.size (fun k hk => by injection hk with hk; omega))
  have hgl0 := blks_lt Kx0_7.out
  have ca0_19 := G19.out.cell ca0_18 (by intro h; injection h with h; simp only at h; omega)
  have ca1_19 := G19.out.cell ca1_18 (by intro h; injection h with h; simp only at h; omega)
  have cx0_19 := G19.out.cell cx0_18 (by intro h; injection h with h; simp only at h; omega)
  have cx1_19 := G19.out.cell cx1_18 (by intro h; injection h with h; simp only at h; omega)
  clear ca0_18 ca1_18 cx0_18 cx1_18
  have Ow_19 := Lib.hid (own_far Ow_18.out (fun k hk => by have := Ow_6.out.lt k hk; omega) G19.out)
  have Ox2_19 := Lib.hid (ownB_far Ox2_18.out (fun k hk => by have := Ox2_10.out.lt k hk; omega) G19.out)
  have Og_19 := Lib.hid (own_far Og_18.out (fun k hk => by have := Og_11.out.lt k hk; omega) G19.out)
  have hgkx1_19 := blks_lt Kx1_9.out
  have Kx1_19 := Lib.hid (blk_farDo Kx1_18.out G19.out (by omega))
  go_wp2_with fail
  have hml1 : x1.length ≤ 1048576 := HL1.out
  (with_reducible refine (markDoorS_any gx1 x1.length (1 + 7 * (x0_1.length : Int)) (doV x1) _ Kx1_19.out (doV_len x1) HL1.out (by omega)).mono ?_)
  rintro e W20 ⟨rfl, hg⟩
  have G20 := Lib.hid hg
  clear hg
  have hs_20 : W19.heap.size ≤ W20.heap.size := G20.out.size
  have HB20 := Lib.hid (Below.grown HB19.out G20.out HB19.out.size (fun k hk => by injection hk with hk; omega))
  have hgl1 := blks_lt Kx1_9.out
  have ca0_20 := G20.out.cell ca0_19 (by intro h; injection h with h; simp only at h; omega)
  have ca1_20 := G20.out.cell ca1_19 (by intro h; injection h with h; simp only at h; omega)
  have cx0_20 := G20.out.cell cx0_19 (by intro h; injection h with h; simp only at h; omega)
  have cx1_20 := G20.out.cell cx1_19 (by intro h; injection h with h; simp only at h; omega)
  clear ca0_19 ca1_19 cx0_19 cx1_19
  have Ow_20 := Lib.hid (own_far Ow_19.out (fun k hk => by have := Ow_6.out.lt k hk; omega) G20.out)
  have Ox2_20 := Lib.hid (ownB_far Ox2_19.out (fun k hk => by have := Ox2_10.out.lt k hk; omega) G20.out)
  have Og_20 := Lib.hid (own_far Og_19.out (fun k hk => by have := Og_11.out.lt k hk; omega) G20.out)
  go_wp2_with fail
  have hml2 : x2.length ≤ 1048576 := HL2.out
  (with_reducible refine (markBoolS_any W9.heap.size (.slice (some ⟨gx2, 0, none⟩) x2.length x2.length) x2 (1 + 7 * (x0_1.length : Int) + 4 * (x1.length : Int)) _ Ox2_20.out HL2.out (by omega)).mono ?_)
  rintro e W21 ⟨rfl, ho, hg⟩
  have G21 := Lib.hid hg
  have hltx2 := (Ox2_10.out.lt gx2 rfl)
  clear ho hg
  have hs_21 : W20.heap.size ≤ W21.heap.size := G21.out.size
  have HB21 := Lib.hid (Below.grown HB20.out G21.out HB20.out.size (fun k hk => by have := (Ox2_20.out.lt k hk).1; omega))
  have ca0_21 := G21.out.cell ca0_20 (by intro h; have := (Ox2_20.out.lt _ h.symm).1; simp only at this; omega)
  have ca1_21 := G21.out.cell ca1_20 (by intro h; have := (Ox2_20.out.lt _ h.symm).1; simp only at this; omega)
  have cx0_21 := G21.out.cell cx0_20 (by intro h; have := (Ox2_20.out.lt _ h.symm).1; simp only at this; omega)
  have cx1_21 := G21.out.cell cx1_20 (by intro h; have := (Ox2_20.out.lt _ h.symm).1; simp only at this; omega)
  clear ca0_20 ca1_20 cx0_20 cx1_20
  have Ow_21 := Lib.hid (own_far Ow_20.out (fun k hk => by have := Ow_6.out.lt k hk; omega) (show W20.grownBy W21 (some gx2) from G21.out))
  have Og_21 := Lib.hid (own_far Og_20.out (fun k hk => by have := Og_11.out.lt k hk; omega) (show W20.grownBy W21 (some gx2) from G21.out))
  have hmk0 : ¬ (1 + 7 * (x0_1.length : Int) + 4 * (x1.length : Int) + (x2.length : Int) < 0) := by omega
  go_wp2_with fail
  (with_reducible refine (eqInt64S_w vg vw (odL a0_0 x0_1 x1 x2) _ (RowW.of_ownI Og_21.out) (RowW.of_ownI Ow_21.out) (by have := HLN.out; omega)).mono ?_)
  rintro e W22 ⟨rfl, n22, hn⟩
  have B22 := Lib.hid (show Below W21.heap.size W21 W22 from hn ▸ below_drewN (Below.refl _ _) n22)
  have HB22 := Lib.hid (HB21.out.trans (B22.out.mono HB21.out.size))
  have hs_22 : W21.heap.size ≤ W22.heap.size := B22.out.size
  have ca0_22 := cellK1 ca0_21 B22.out
  have ca1_22 := cellK1 ca1_21 B22.out
  have cx0_22 := cellK1 cx0_21 B22.out
  have cx1_22 := cellK1 cx1_21 B22.out
  clear ca0_21 ca1_21 cx0_21 cx1_21
  have Ow_22 := Lib.hid (Ow_21.out.below B22.out)
  have Og_22 := Lib.hid (Og_21.out.below B22.out)
  clear hn
  try clear hd
  go_wp2_with fail
  (with_reducible refine (markInt64S_any W10.heap.size vg (odL a0_0 x0_1 x1 x2) 1 _ Og_22.out (by first | omega | (have := HLN.out; omega)) (by omega)).mono ?_)
  rintro e W23 ⟨rfl, ho, hg⟩
  have G23 := Lib.hid hg
  have Og_23 := Lib.hid ho
  clear ho hg
  have hs_23 : W22.heap.size ≤ W23.heap.size := G23.out.size
  have HB23 := Lib.hid (Below.grown HB22.out G23.out HB22.out.size (fun k hk => by have := (Og_22.out.lt k hk).1; omega))
  have ca0_23 := G23.out.cell ca0_22 (by intro h; have := (Og_22.out.lt _ h.symm).1; simp only at this; omega)
  have ca1_23 := G23.out.cell ca1_22 (by intro h; have := (Og_22.out.lt _ h.symm).1; simp only at this; omega)
  have cx0_23 := G23.out.cell cx0_22 (by intro h; have := (Og_22.out.lt _ h.symm).1; simp only at this; omega)
  have cx1_23 := G23.out.cell cx1_22 (by intro h; have := (Og_22.out.lt _ h.symm).1; simp only at this; omega)
  clear ca0_22 ca1_22 cx0_22 cx1_22
  have Ow_23 := Lib.hid (OwnI.apart Ow_22.out (fun k hk => by have := (Ow_6.out.lt k hk).2; omega) Og_22.out G23.out)
  go_wp2_with fail
  (with_reducible refine (heldInt64S_any W10.heap.size vg (odL a0_0 x0_1 x1 x2).length 1 _ Og_23.out (by have := HLN.out; omega) (by omega)).mono ?_)
  rintro e w' ⟨rfl, rfl⟩
  have hm0 : ¬ (1 + ((odL a0_0 x0_1 x1 x2).length : Int) < 0) := by omega
  go_wp2_with fail
  (with_reducible refine (toMine_any a0_0 A0_1 C0_1 x0_1 _ (HR0.out.below HB23.out) HL0.out).mono ?_)
  rintro e W24 ⟨gh0, rfl, hk, hgh0, hd⟩
  have B24 := Lib.hid (show Below W23.heap.size W23 W24 from hd)
  have HB24 := Lib.hid (HB23.out.trans (B24.out.mono HB23.out.size))
  have hs_24 : W23.heap.size ≤ W24.heap.size := B24.out.size
  have ca0_24 := cellK1 ca0_23 B24.out
  have ca1_24 := cellK1 ca1_23 B24.out
  have cx0_24 := cellK1 cx0_23 B24.out
  have cx1_24 := cellK1 cx1_23 B24.out
  clear ca0_23 ca1_23 cx0_23 cx1_23
  have Ow_24 := Lib.hid (Ow_23.out.below B24.out)
  have Og_24 := Lib.hid (Og_23.out.below B24.out)
  have Kh0_24 := Lib.hid hk
  clear hk
  try clear hd
  go_wp2_with fail
  (with_reducible refine (toDoorS_any A1 C1 x1 _ (HR1.out.below HB24.out) HL1.out).mono ?_)
  rintro e W25 ⟨gh1, rfl, hk, hgh1, hd⟩
  have B25 := Lib.hid (show Below W24.heap.size W24 W25 from hd)
  have HB25 := Lib.hid (HB24.out.trans (B25.out.mono HB24.out.size))
  have hs_25 : W24.heap.size ≤ W25.heap.size := B25.out.size
  have ca0_25 := cellK1 ca0_24 B25.out
  have ca1_25 := cellK1 ca1_24 B25.out
  have cx0_25 := cellK1 cx0_24 B25.out
  have cx1_25 := cellK1 cx1_24 B25.out
  clear ca0_24 ca1_24 cx0_24 cx1_24
  have Ow_25 := Lib.hid (Ow_24.out.below B25.out)
  have Og_25 := Lib.hid (Og_24.out.below B25.out)
  have Kh0_25 := Lib.hid (Kh0_24.out.below B25.out Kh0_24.out.lt)
  have Kh1_25 := Lib.hid hk
  clear hk
  try clear hd
  go_wp2_with fail
  (with_reducible refine (toBoolS_own A2 C2 x2 _ (HR2.out.below HB25.out) HL2.out).mono ?_)
  rintro e W26 ⟨gh2, rfl, ho, hd⟩
  have B26 := Lib.hid (show Below W25.heap.size W25 W26 from hd)
  have HB26 := Lib.hid (HB25.out.trans (B26.out.mono HB25.out.size))
  have hs_26 : W25.heap.size ≤ W26.heap.size := B26.out.size
  have ca0_26 := cellK1 ca0_25 B26.out
  have ca1_26 := cellK1 ca1_25 B26.out
  have cx0_26 := cellK1 cx0_25 B26.out
  have cx1_26 := cellK1 cx1_25 B26.out
  clear ca0_25 ca1_25 cx0_25 cx1_25
  have Ow_26 := Lib.hid (Ow_25.out.below B26.out)
  have Og_26 := Lib.hid (Og_25.out.below B26.out)
  have Kh0_26 := Lib.hid (Kh0_25.out.below B26.out Kh0_25.out.lt)
  have Kh1_26 := Lib.hid (Kh1_25.out.below B26.out Kh1_25.out.lt)
  have Oh2_26 := Lib.hid ho
  clear ho
  try clear hd
  go_wp2_with fail
  (with_reducible refine (iOpenDoors_any a0_0 (some ⟨gh0, 0, none⟩) x0_1.length x0_1 (some ⟨gh1, 0, none⟩) x1.length x1 (some ⟨gh2, 0, none⟩) x2.length x2 _ Kh0_26.out.awr S0.out HL0.out Kh1_26.out.doR S1.out HL1.out (ownB_read Oh2_26.out) HL2.out).mono ?_)
  rintro e W27 ⟨vh, rfl, ho, hd⟩
  have B27 := Lib.hid (show Below W26.heap.size W26 W27 from hd)
  have HB27 := Lib.hid (HB26.out.trans (B27.out.mono HB26.out.size))
  have hs_27 : W26.heap.size ≤ W27.heap.size := B27.out.size
  have ca0_27 := cellK1 ca0_26 B27.out
  have ca1_27 := cellK1 ca1_26 B27.out
  have cx0_27 := cellK1 cx0_26 B27.out
  have cx1_27 := cellK1 cx1_26 B27.out
  clear ca0_26 ca1_26 cx0_26 cx1_26
  have Ow_27 := Lib.hid (Ow_26.out.below B27.out)
  have Og_27 := Lib.hid (Og_26.out.below B27.out)
  have Oh2_27 := Lib.hid (Oh2_26.out.below B27.out)
  have Kh0_27 := Lib.hid (Kh0_26.out.below B27.out Kh0_26.out.lt)
  have Kh1_27 := Lib.hid (Kh1_26.out.below B27.out Kh1_26.out.lt)
  have Oh_27 := Lib.hid ho
  clear ho
  try clear hd
  go_wp2_with fail
  (with_reducible refine (eqInt64S_w vh vw (odL a0_0 x0_1 x1 x2) _ (RowW.of_ownI Oh_27.out) (RowW.of_ownI Ow_27.out) (by have := HLN.out; omega)).mono ?_)
  rintro e W28 ⟨rfl, n28, hn⟩
  have B28 := Lib.hid (show Below W27.heap.size W27 W28 from hn ▸ below_drewN (Below.refl _ _) n28)
  have HB28 := Lib.hid (HB27.out.trans (B28.out.mono HB27.out.size))
  have hs_28 : W27.heap.size ≤ W28.heap.size := B28.out.size
  have ca0_28 := cellK1 ca0_27 B28.out
  have ca1_28 := cellK1 ca1_27 B28.out
  have cx0_28 := cellK1 cx0_27 B28.out
  have cx1_28 := cellK1 cx1_27 B28.out
  clear ca0_27 ca1_27 cx0_27 cx1_27
  have Ow_28 := Lib.hid (Ow_27.out.below B28.out)
  have Og_28 := Lib.hid (Og_27.out.below B28.out)
  have Oh2_28 := Lib.hid (Oh2_27.out.below B28.out)
  have Oh_28 := Lib.hid (Oh_27.out.below B28.out)
  have Kh0_28 := Lib.hid (Kh0_27.out.below B28.out Kh0_27.out.lt)
  have Kh1_28 := Lib.hid (Kh1_27.out.below B28.out Kh1_27.out.lt)
  clear hn
  try clear hd
  go_wp2_with fail
  (with_reducible refine (heldInt64S_any W10.heap.size vg (odL a0_0 x0_1 x1 x2).length 1 _ Og_28.out (by have := HLN.out; omega) (by omega)).mono ?_)
  rintro e w' ⟨rfl, rfl⟩
  go_wp2
  go_ret
  exact ⟨rfl, HB28.out⟩

set_option maxHeartbeats 1000000 in
set_option maxRecDepth 100000 in
theorem contract (H : Type) (enc : TypeId × Value → H) (W : World) (base : Nat) (args : Array Value) (ds gs : List (DataW H)) (before : List MemPlace)
    (hval : ∀ (j : Nat) t v, Try.f5.params[j]? = some t → args[j]? = some v → Value.okWide Try.prog W .any base t v)
    (hW : DataW.Whole enc Try.prog Try.f5.params.toList Rows.fnExactOpenDoorsSpec.vars false W args.toList ds gs before) :
    Calls Try.prog 5 args W fun e W' => ∃ v, e = .returned v ∧ Rows.fnExactOpenDoorsSpec.post enc Try.prog Try.f5 false true false false W args v W' := by
  have hW' := hW
  obtain ⟨p, q, hA0, hV, rfl, hfz, hnd⟩ := hW
  have hA : DataW.TrodAll enc Try.prog W 0 (fun _ => true) true Try.f5.params.toList args.toList ds p := hA0
  rw [Try.params5] at hA hval
  obtain ⟨v0, vs0, d0, ds0, p0, q0, hargs, rfl, rfl, h0, r0⟩ := trodAll_cons hA
  obtain ⟨v1, vs1, d1, ds1, p1, q1, rfl, rfl, rfl, h1, r1⟩ := trodAll_cons r0
  obtain ⟨v2, vs2, d2, ds2, p2, q2, rfl, rfl, rfl, h2, r2⟩ := trodAll_cons r1
  obtain ⟨rfl, rfl, rfl⟩ := trodAll_nil r2
  obtain rfl : args = #[v0, v1, v2] := by cases args; simp_all
  obtain ⟨rfl, rfl⟩ := trodVars_none hV
  have k0 := h0
  have lt0 : ∀ x ∈ p0, x.block < W.heap.size := by obtain ⟨m, hm⟩ := k0; exact DataW.trod_lt m _ _ _ hm
  obtain ⟨l0, rfl, ll0, hf0⟩ := open_fields Try.underlying31 (by kernel_rfl) (by kernel_rfl) (hval 0 31 v0 rfl rfl) h0
  obtain ⟨c0_0, n0_0, y0_0, e0_0, t0_0⟩ := hf0 0 _ rfl
  obtain ⟨a0_0, q0_0, _, w0_0⟩ := DataW.trod_int Try.underlying2 t0_0
  obtain ⟨c0_1, n0_1, y0_1, e0_1, t0_1⟩ := hf0 1 _ rfl
  obtain ⟨A0_1, C0_1, x0_1, q0_1, l0_1, r0_1, f0_1⟩ := open_aws t0_1
  obtain rfl := List.cons.inj q0_0 |>.1
  obtain rfl := List.cons.inj q0_1 |>.1
  obtain rfl : l0 = [.int .i64 a0_0, .slice A0_1 x0_1.length C0_1] := by
    match l0, ll0, e0_0, e0_1 with
    | [x0, x1], _, z0, z1 => simp at z0 z1; simp [z0, z1]
  obtain ⟨a1, len1, cap1, rfl⟩ := okWide_slice Try.underlying32 (hval 1 32 v1 rfl rfl)
  have k1 := h1
  have lt1 : ∀ x ∈ p1, x.block < W.heap.size := by obtain ⟨m, hm⟩ := k1; exact DataW.trod_lt m _ _ _ hm
  obtain ⟨fu1, ho1⟩ := h1
  obtain ⟨A1, C1, x1, qx1, lx1, rx1, fx1⟩ := open_dos ho1
  simp only [Value.cells] at qx1
  obtain ⟨rfl, rfl, rfl⟩ : a1 = A1 ∧ len1 = x1.length ∧ cap1 = C1 := by simpa using qx1
  obtain ⟨a2, len2, cap2, rfl⟩ := okWide_slice Try.underlying45 (hval 2 45 v2 rfl rfl)
  have k2 := h2
  have lt2 : ∀ x ∈ p2, x.block < W.heap.size := by obtain ⟨m, hm⟩ := k2; exact DataW.trod_lt m _ _ _ hm
  obtain ⟨fu2, ho2⟩ := h2
  obtain ⟨A2, C2, x2, qx2, lx2, rx2, fx2⟩ := open_bools ho2
  simp only [Value.cells] at qx2
  obtain ⟨rfl, rfl, rfl⟩ : a2 = A2 ∧ len2 = x2.length ∧ cap2 = C2 := by simpa using qx2
  clear hA0
  refine (walk W a0_0 w0_0 A0_1 C0_1 x0_1 l0_1 r0_1 f0_1 a1 cap1 x1 lx1 rx1 fx1 a2 cap2 x2 lx2 rx2 fx2).mono fun e W' ⟨he, bel⟩ => ?_
  subst he
  exact ⟨_, rfl, _, _, _, [], _, [], hW', trodAll_mk1 (shut_bool Try.underlying4 _), (trodAll_cons_mk (Below.trod laidOut (by kernel_rfl) (of_decide_eq_true (by kernel_rfl)) k0 bel lt0) (trodAll_cons_mk (Below.trod laidOut (by kernel_rfl) (of_decide_eq_true (by kernel_rfl)) k1 bel lt1) (trodAll_cons_mk (Below.trod laidOut (by kernel_rfl) (of_decide_eq_true (by kernel_rfl)) k2 bel lt2) trodAll_mk0))), rfl, bel.frame _, fun h => by cases h⟩

set_option maxRecDepth 100000 in
theorem lifted (os : Os) (started : os.Started) (H : Type) (enc : TypeId × Value → H) :
    ReturnsInHanded {} Try.checked os 5 .any (Rows.fnExactOpenDoorsSpec.pre6 enc Try.prog Try.f5 Rows.fnExactOpenDoorsRow.domain false) (Rows.fnExactOpenDoorsSpec.post enc Try.prog Try.f5 false true false false) := by
  refine returnsInHanded_of_change (C := Try.checked) own started (by kernel_rfl) Try.func5
    (ChangeSpec.witness6 (enc := enc) (C := Try.checked) false ⟨#[], #[.agg #[.int .i64 0, .slice none 0 0], .slice none 0 0, .slice none 0 0], []⟩ 8 (by kernel_rfl) (by kernel_rfl) (by kernel_rfl) (by kernel_rfl)) ?_
  intro W base args ds gs before hval hW hcnd _
  exact contract H enc W base args ds gs before hval hW

set_option maxHeartbeats 4000000 in
theorem facts : joinedFacts Try.pinned.checked.prog 5 Try.f5 Rows.fnExactOpenDoorsSpec Rows.fnExactOpenDoorsRow = true := by
  unfold joinedFacts
  simp only [Bool.and_eq_true]
  repeat' apply And.intro
  all_goals first
    | (with_reducible exact fxMay)
    | (rw [fxLifts]; as_aux_lemma => kernel_rfl)
    | (rw [fxMake]; as_aux_lemma => kernel_rfl)
    | (as_aux_lemma => kernel_rfl)
theorem proved : Rows.FnExactOpenDoorsSaid :=
  OpenClaim.holds_of_wide 5 Try.f5 rfl rfl rfl rfl rfl rfl rfl ⟨rfl, rfl, rfl, rfl, rfl⟩ rfl rfl rfl rfl rfl (by kernel_rfl) Try.func5 facts
    (of_decide_eq_true (by kernel_rfl)) (by unfold Func.isWrapper; first | (rw [if_pos (by decide +kernel)]; kernel_rfl) | (rw [if_neg (by decide +kernel)]; exact ⟨rfl, rfl⟩))
    (fun os started H enc _ => lifted os started H enc)
#print axioms proved
end Go.Proofs.Ytddfhjolimkkmaa.fnExactOpenDoors
