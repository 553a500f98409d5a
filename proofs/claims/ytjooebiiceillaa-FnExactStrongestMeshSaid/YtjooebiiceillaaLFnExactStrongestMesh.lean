/-
  PROVED: for every input the function laws.FnExactStrongestMesh returns true and leaves its arguments as they were. Conditions: none.
-/
import Derived.Test.YtjooebiiceillaaRows
import Derived.Test.YtjooebiiceillaaTc
import Derived.Test.YtjooebiiceillaaGg
import Derived.WalkKit
import Derived.ProofKit
import Derived.OpenShut
import Derived.ShutString
import Derived.ChangeOld
import Derived.Below
import Derived.Carry
import Derived.Lib.SmallJoins
import Derived.ChangeArms
namespace Go.Proofs.Ytjooebiiceillaa.fnExactStrongestMesh
open Go.ChangeShapes Go.WideShapes Go.ChangeAt Go.RowKit
open Go.ChangeMaps (open_string shut_string)
open Go.Joins Go.Deep
set_option linter.unusedVariables false
set_option linter.unusedSimpArgs false

theorem own : ownKnob Try.prog.godebug = none := by kernel_rfl
theorem laidOut : laidOutB Try.prog = true := by kernel_rfl
section
variable {H : Type} {enc : TypeId × Value → H} {P : Program} {w : World} {base : Nat} {spare : Nat → Bool} {held : Bool}
theorem open_fields {r : Reach} {b0 : Nat} {t : TypeId} {fs : Array Field} {v : Value} {d : DataW H} {p : List MemPlace} (hs : P.underlying t = some (.struct fs)) (hone : oneCellFields P fs = true) (hC : P.cellsOf t = fs.size)
    (hv : Value.okWide P w r b0 t v) (h : DataW.Trod enc P w base spare held t v d p) :
    ∃ l : List Value, v = .agg ⟨l⟩ ∧ l.length = fs.size ∧ ∀ (j : Nat) (f : Field), fs[j]? = some f → ∃ (c : Value) (n : Nat) (y : DataW H × List MemPlace), l[j]? = some c ∧ DataW.trod enc P w base spare held n f.type [c] = some y := by
  obtain ⟨cs, rfl, hsz⟩ := okWide_struct hs hv
  obtain ⟨l⟩ := cs
  obtain ⟨fuel, hf⟩ := h
  obtain ⟨xs, n, _, _, _, hlen, hg⟩ := DataW.trod_struct hs hf
  have hl : l.length = fs.size := by simpa using hsz.trans hC
  refine ⟨l, rfl, hl, fun j f hj => ?_⟩
  obtain ⟨o, k⟩ := hone_of hone j f hj
  have hjf : j < fs.size := (Array.getElem?_eq_some_iff.1 hj).1
  have hjl : j < l.length := by omega
  have h1 := hg j f hj
  rw [o, k] at h1
  have e : (l.drop j).take 1 = [l[j]] := by
    rw [List.drop_eq_getElem_cons hjl]; rfl
  replace h1 : DataW.trod enc P w base spare held n f.type ((l.drop j).take 1) = xs[j]? := by simpa [Value.cells] using h1
  rw [e] at h1
  have hx : xs[j]? = some (xs[j]'(by omega)) := List.getElem?_eq_getElem (by omega)
  exact ⟨l[j], _, _, List.getElem?_eq_getElem hjl, h1.trans hx⟩
end
/-- A slice of integers that came in: nil, or a row of 'cap' cells. -/
def IsRow (k : IntKind) (w : World) (a : Option Addr) (len cap : Nat) (zs : List Int) : Prop :=
  (a = none ∧ len = 0 ∧ cap = 0 ∧ zs = []) ∨
  ∃ x, a = some x ∧ len ≤ cap ∧ cap ≤ maxLen ∧ zs.length = cap ∧ (∀ i, i < zs.length → w.cell? (x.add i) = some (.int k (zs.getD i 0))) ∧ ∀ n ∈ zs, (Lit.int k n).wf = true
theorem rowW {w : World} {a : Option Addr} {len cap : Nat} {zs : List Int} (h : IsRow .i64 w a len cap zs) : ∃ xs, xs.length = len ∧ RowW .i64 w (.slice a len cap) xs := by
  rcases h with ⟨rfl, rfl, rfl, rfl⟩ | ⟨x, rfl, hlc, hcm, hzl, hcell, hwf⟩
  · exact ⟨[], rfl, none, 0, rfl, fun j hj => absurd hj (by simp)⟩
  · have hl : (zs.take len).length = len := by rw [List.length_take]; omega
    refine ⟨zs.take len, hl, some x, cap, by rw [hl], fun j hj => ?_⟩
    rw [hl] at hj
    have h0 := hcell 0 (by omega)
    obtain ⟨b, off, sp⟩ := x
    have hsp : sp = none := by
      unfold Addr.add World.cell? at h0
      rw [if_pos rfl] at h0
      cases sp with
      | none => rfl
      | some q => cases hq : w.heap[b]? with
        | none => simp [hq] at h0
        | some o => cases o <;> simp [hq] at h0
    subst hsp
    refine ⟨b, off, rfl, ?_⟩
    have := hcell j (by omega)
    rw [List.getD_eq_getElem?_getD, List.getElem?_take, if_pos hj, ← List.getD_eq_getElem?_getD, ← this]
    unfold Addr.add
    split
    · rename_i h; subst h; rfl
    · rfl

theorem walk (w : World) (a0_0 : Int) (w0_0 : (Lit.int .i64 a0_0).wf = true) (A0_1 : Option Addr) (C0_1 : Nat) (x0_1 : List Aw) (l0_1 : x0_1.length ≤ maxLen) (r0_1 : AwR w A0_1 x0_1) (f0_1 : ∀ a ∈ x0_1, a.fits) (a1 : Option Addr) (len1 cap1 : Nat) (z1 : List Int) (w1 : IsRow .i64 w a1 len1 cap1 z1) (a2 : Option Addr) (len2 cap2 : Nat) (z2 : List Int) (w2 : IsRow .i64 w a2 len2 cap2 z2) :
    Calls Try.prog 11 #[.agg #[.int .i64 a0_0, .slice A0_1 x0_1.length C0_1], .slice a1 len1 cap1, .slice a2 len2 cap2] w fun e w' => e = .returned (.bool true) ∧ Below w.heap.size w w' := by
  obtain ⟨y1, rfl, hy1⟩ := rowW w1
  have HY1 := Lib.hid hy1
  clear hy1 w1
  obtain ⟨y2, rfl, hy2⟩ := rowW w2
  have HY2 := Lib.hid hy2
  clear hy2 w2
  have S0 := Lib.hid (fun a ha => (f0_1 a ha).1)
  have HLL0 := Lib.hid l0_1
  have HR0 := Lib.hid r0_1
  clear r0_1
  by_cases hlong1 : 1048576 < y1.length
  · have t1 : (1048576 : Int) < (y1.length : Int) := by omega
    go_enter Try.func11, Try.ntmps11
    go_wp2
    go_ret
    exact ⟨rfl, below_box _ _⟩
  have hl1 : y1.length ≤ 1048576 := by omega
  have t1_1 : ¬ (1048576 : Int) < (y1.length : Int) := by omega
  have t2_1 : decide ((1048576 : Int) < (y1.length : Int)) = false := decide_eq_false t1_1
  clear hlong1
  by_cases hlong2 : 1048576 < y2.length
  · have t1 : (1048576 : Int) < (y2.length : Int) := by omega
    go_enter Try.func11, Try.ntmps11
    go_wp2
    go_ret
    exact ⟨rfl, below_box _ _⟩
  have hl2 : y2.length ≤ 1048576 := by omega
  have t1_2 : ¬ (1048576 : Int) < (y2.length : Int) := by omega
  have t2_2 : decide ((1048576 : Int) < (y2.length : Int)) = false := decide_eq_false t1_2
  clear hlong2
  by_cases hs : szL 1048576 x0_1 < 0
  · skip
    go_enter Try.func11, Try.ntmps11
    go_wp2_with fail
    obtain ⟨w1, hL1⟩ : ∃ x, x = (w.alloc (.cells #[.int .i64 a0_0, .slice A0_1 x0_1.length C0_1] 29)) := ⟨_, rfl⟩
    have hd1 : Below w.heap.size w w1 := hL1 ▸ below_box _ _
    rw [← hL1]
    obtain ⟨p0, hp0⟩ : ∃ p, p = w.heap.size := ⟨_, rfl⟩
    rw [← hp0]
    have HB_1 := Lib.hid (show Below w.heap.size w w1 from hd1)
    have B0c0_1 : w1.cell? ⟨p0, 0, none⟩ = some (.int .i64 a0_0) := (by rw [hL1, hp0]; simp)
    have B0c1_1 : w1.cell? ⟨p0, 1, none⟩ = some (.slice A0_1 x0_1.length C0_1) := (by rw [hL1, hp0]; simp)
    have R0_1 := Lib.hid (show AwR w1 A0_1 x0_1 from HR0.out.below hd1)
    have Y1_1 := Lib.hid (show RowW .i64 w1 (.slice _ y1.length _) y1 from HY1.out.below hd1)
    have Y2_1 := Lib.hid (show RowW .i64 w1 (.slice _ y2.length _) y2 from HY2.out.below hd1)
    clear hd1 hL1 hp0
    go_wp2_with fail
    (with_reducible refine (szMine_any a0_0 A0_1 C0_1 x0_1 (1048576) _ R0_1.out S0.out HLL0.out (by omega)).mono ?_)
    rintro e w2 ⟨rfl, hd2⟩
    have HB_2 := Lib.hid (show Below w.heap.size w w2 from HB_1.out.trans (hd2.mono HB_1.out.size))
    have B0c0_2 : w2.cell? ⟨p0, 0, none⟩ = some (.int .i64 a0_0) := cellK B0c0_1 hd2
    have B0c1_2 : w2.cell? ⟨p0, 1, none⟩ = some (.slice A0_1 x0_1.length C0_1) := cellK B0c1_1 hd2
    have R0_2 := Lib.hid (show AwR w2 A0_1 x0_1 from AwR.below R0_1.out hd2)
    have Y1_2 := Lib.hid (show RowW .i64 w2 (.slice _ y1.length _) y1 from RowW.below Y1_1.out hd2)
    have Y2_2 := Lib.hid (show RowW .i64 w2 (.slice _ y2.length _) y2 from RowW.below Y2_1.out hd2)
    clear B0c0_1 B0c1_1 R0_1 Y1_1 Y2_1
    clear hd2
    go_wp2
    go_ret
    exact ⟨rfl, HB_2.out⟩
  have HL0 := Lib.hid (show x0_1.length ≤ 1048576 from by have := (szL_bd (by omega) (Int.not_lt.1 hs)).1; omega)
  go_enter Try.func11, Try.ntmps11
  go_wp2_with fail
  obtain ⟨w1, hL1⟩ : ∃ x, x = (w.alloc (.cells #[.int .i64 a0_0, .slice A0_1 x0_1.length C0_1] 29)) := ⟨_, rfl⟩
  have hd1 : Below w.heap.size w w1 := hL1 ▸ below_box _ _
  rw [← hL1]
  obtain ⟨p0, hp0⟩ : ∃ p, p = w.heap.size := ⟨_, rfl⟩
  rw [← hp0]
  have HB_1 := Lib.hid (show Below w.heap.size w w1 from hd1)
  have B0c0_1 : w1.cell? ⟨p0, 0, none⟩ = some (.int .i64 a0_0) := (by rw [hL1, hp0]; simp)
  have B0c1_1 : w1.cell? ⟨p0, 1, none⟩ = some (.slice A0_1 x0_1.length C0_1) := (by rw [hL1, hp0]; simp)
  have R0_1 := Lib.hid (show AwR w1 A0_1 x0_1 from HR0.out.below hd1)
  have Y1_1 := Lib.hid (show RowW .i64 w1 (.slice _ y1.length _) y1 from HY1.out.below hd1)
  have Y2_1 := Lib.hid (show RowW .i64 w1 (.slice _ y2.length _) y2 from HY2.out.below hd1)
  clear hd1 hL1 hp0
  go_wp2_with fail
  (with_reducible refine (szMine_any a0_0 A0_1 C0_1 x0_1 (1048576) _ R0_1.out S0.out HLL0.out (by omega)).mono ?_)
  rintro e w2 ⟨rfl, hd2⟩
  have HB_2 := Lib.hid (show Below w.heap.size w w2 from HB_1.out.trans (hd2.mono HB_1.out.size))
  have B0c0_2 : w2.cell? ⟨p0, 0, none⟩ = some (.int .i64 a0_0) := cellK B0c0_1 hd2
  have B0c1_2 : w2.cell? ⟨p0, 1, none⟩ = some (.slice A0_1 x0_1.length C0_1) := cellK B0c1_1 hd2
  have R0_2 := Lib.hid (show AwR w2 A0_1 x0_1 from AwR.below R0_1.out hd2)
  have Y1_2 := Lib.hid (show RowW .i64 w2 (.slice _ y1.length _) y1 from RowW.below Y1_1.out hd2)
  have Y2_2 := Lib.hid (show RowW .i64 w2 (.slice _ y2.length _) y2 from RowW.below Y2_1.out hd2)
  clear B0c0_1 B0c1_1 R0_1 Y1_1 Y2_1
  clear hd2
  go_wp2_with fail
  (with_reducible refine (toMine_any a0_0 A0_1 C0_1 x0_1 _ R0_2.out HL0.out).mono ?_)
  rintro e w3 ⟨gs, rfl, hk3, hg3, hd3⟩
  have HB_3 := Lib.hid (show Below w.heap.size w w3 from HB_2.out.trans (hd3.mono HB_2.out.size))
  have B0c0_3 : w3.cell? ⟨p0, 0, none⟩ = some (.int .i64 a0_0) := cellK B0c0_2 hd3
  have B0c1_3 : w3.cell? ⟨p0, 1, none⟩ = some (.slice A0_1 x0_1.length C0_1) := cellK B0c1_2 hd3
  have R0_3 := Lib.hid (show AwR w3 A0_1 x0_1 from AwR.below R0_2.out hd3)
  have Y1_3 := Lib.hid (show RowW .i64 w3 (.slice _ y1.length _) y1 from RowW.below Y1_2.out hd3)
  have Y2_3 := Lib.hid (show RowW .i64 w3 (.slice _ y2.length _) y2 from RowW.below Y2_2.out hd3)
  clear B0c0_2 B0c1_2 R0_2 Y1_2 Y2_2
  have Ks_3 := Lib.hid (show BlkV w3 gs 91 (awsV x0_1) from hk3)
  clear hk3 hg3
  clear hd3
  go_wp2_with fail
  (with_reducible refine (toInt64S_any _ y1 _ Y1_3.out hl1).mono ?_)
  rintro e w4 ⟨gs1, rfl, hr4, hd4⟩
  have HB_4 := Lib.hid (show Below w.heap.size w w4 from HB_3.out.trans (hd4.mono HB_3.out.size))
  have B0c0_4 : w4.cell? ⟨p0, 0, none⟩ = some (.int .i64 a0_0) := cellK B0c0_3 hd4
  have B0c1_4 : w4.cell? ⟨p0, 1, none⟩ = some (.slice A0_1 x0_1.length C0_1) := cellK B0c1_3 hd4
  have R0_4 := Lib.hid (show AwR w4 A0_1 x0_1 from AwR.below R0_3.out hd4)
  have Y1_4 := Lib.hid (show RowW .i64 w4 (.slice _ y1.length _) y1 from RowW.below Y1_3.out hd4)
  have Y2_4 := Lib.hid (show RowW .i64 w4 (.slice _ y2.length _) y2 from RowW.below Y2_3.out hd4)
  have Ks_4 := Lib.hid (show BlkV w4 gs 91 (awsV x0_1) from Ks_3.out.below hd4 Ks_3.out.lt)
  clear B0c0_3 B0c1_3 R0_3 Y1_3 Y2_3 Ks_3
  have Qs1_4 := Lib.hid (show Row .i64 w4 (.slice (some ⟨gs1, 0, none⟩) y1.length y1.length) y1 from hr4)
  clear hr4
  clear hd4
  go_wp2_with fail
  (with_reducible refine (toInt64S_any _ y2 _ Y2_4.out hl2).mono ?_)
  rintro e w5 ⟨gs2, rfl, hr5, hd5⟩
  have HB_5 := Lib.hid (show Below w.heap.size w w5 from HB_4.out.trans (hd5.mono HB_4.out.size))
  have B0c0_5 : w5.cell? ⟨p0, 0, none⟩ = some (.int .i64 a0_0) := cellK B0c0_4 hd5
  have B0c1_5 : w5.cell? ⟨p0, 1, none⟩ = some (.slice A0_1 x0_1.length C0_1) := cellK B0c1_4 hd5
  have R0_5 := Lib.hid (show AwR w5 A0_1 x0_1 from AwR.below R0_4.out hd5)
  have Y1_5 := Lib.hid (show RowW .i64 w5 (.slice _ y1.length _) y1 from RowW.below Y1_4.out hd5)
  have Y2_5 := Lib.hid (show RowW .i64 w5 (.slice _ y2.length _) y2 from RowW.below Y2_4.out hd5)
  have Ks_5 := Lib.hid (show BlkV w5 gs 91 (awsV x0_1) from Ks_4.out.below hd5 Ks_4.out.lt)
  have Qs1_5 := Lib.hid (show Row .i64 w5 (.slice (some ⟨gs1, 0, none⟩) y1.length y1.length) y1 from Row.below Qs1_4.out hd5)
  clear B0c0_4 B0c1_4 R0_4 Y1_4 Y2_4 Ks_4 Qs1_4
  have Qs2_5 := Lib.hid (show Row .i64 w5 (.slice (some ⟨gs2, 0, none⟩) y2.length y2.length) y2 from hr5)
  clear hr5
  clear hd5
  go_wp2_with fail
  (with_reducible refine (sStrongestMesh_any a0_0 (some ⟨gs, 0, none⟩) x0_1.length x0_1 _ y1 _ y2  _ Ks_5.out.awr S0.out HL0.out Qs1_5.out hl1 Qs2_5.out hl2).mono ?_)
  rintro e w6 ⟨rfl, hd6⟩
  have HB_6 := Lib.hid (show Below w.heap.size w w6 from HB_5.out.trans (hd6.mono HB_5.out.size))
  have B0c0_6 : w6.cell? ⟨p0, 0, none⟩ = some (.int .i64 a0_0) := cellK B0c0_5 hd6
  have B0c1_6 : w6.cell? ⟨p0, 1, none⟩ = some (.slice A0_1 x0_1.length C0_1) := cellK B0c1_5 hd6
  have R0_6 := Lib.hid (show AwR w6 A0_1 x0_1 from AwR.below R0_5.out hd6)
  have Y1_6 := Lib.hid (show RowW .i64 w6 (.slice _ y1.length _) y1 from RowW.below Y1_5.out hd6)
  have Y2_6 := Lib.hid (show RowW .i64 w6 (.slice _ y2.length _) y2 from RowW.below Y2_5.out hd6)
  have Ks_6 := Lib.hid (show BlkV w6 gs 91 (awsV x0_1) from Ks_5.out.below hd6 Ks_5.out.lt)
  have Qs1_6 := Lib.hid (show Row .i64 w6 (.slice (some ⟨gs1, 0, none⟩) y1.length y1.length) y1 from Row.below Qs1_5.out hd6)
  have Qs2_6 := Lib.hid (show Row .i64 w6 (.slice (some ⟨gs2, 0, none⟩) y2.length y2.length) y2 from Row.below Qs2_5.out hd6)
  clear B0c0_5 B0c1_5 R0_5 Y1_5 Y2_5 Ks_5 Qs1_5 Qs2_5
  clear hd6
  go_wp2_with fail
  (with_reducible refine (toMine_any a0_0 A0_1 C0_1 x0_1 _ R0_6.out HL0.out).mono ?_)
  rintro e w7 ⟨gx, rfl, hk7, hg7, hd7⟩
  have HB_7 := Lib.hid (show Below w.heap.size w w7 from HB_6.out.trans (hd7.mono HB_6.out.size))
  have B0c0_7 : w7.cell? ⟨p0, 0, none⟩ = some (.int .i64 a0_0) := cellK B0c0_6 hd7
  have B0c1_7 : w7.cell? ⟨p0, 1, none⟩ = some (.slice A0_1 x0_1.length C0_1) := cellK B0c1_6 hd7
  have R0_7 := Lib.hid (show AwR w7 A0_1 x0_1 from AwR.below R0_6.out hd7)
  have Y1_7 := Lib.hid (show RowW .i64 w7 (.slice _ y1.length _) y1 from RowW.below Y1_6.out hd7)
  have Y2_7 := Lib.hid (show RowW .i64 w7 (.slice _ y2.length _) y2 from RowW.below Y2_6.out hd7)
  clear B0c0_6 B0c1_6 R0_6 Y1_6 Y2_6
  have Kx_7 := Lib.hid (show BlkV w7 gx 91 (awsV x0_1) from hk7)
  clear hk7 hg7
  clear hd7
  have hltp0 : p0 < w7.heap.size := World.block_lt_of_cell? _ _ B0c0_7
  have hnep0 : ¬ (p0 = w7.heap.size) := Nat.ne_of_lt hltp0
  go_wp2_with fail
  clear hltp0 hnep0
  obtain ⟨w8, hL8⟩ : ∃ x, x = w7.alloc (.cells #[.int .i64 a0_0, .slice (some ⟨gx, 0, none⟩) x0_1.length x0_1.length] 36) := ⟨_, rfl⟩
  have hd8 : Below w7.heap.size w7 w8 := hL8 ▸ below_box _ _
  obtain ⟨px, hpx⟩ : ∃ p, p = w7.heap.size := ⟨_, rfl⟩
  rw [← hL8, ← hpx]
  have HB_8 := Lib.hid (show Below w.heap.size w w8 from HB_7.out.trans (hd8.mono HB_7.out.size))
  have B0c0_8 : w8.cell? ⟨p0, 0, none⟩ = some (.int .i64 a0_0) := cellK B0c0_7 hd8
  have B0c1_8 : w8.cell? ⟨p0, 1, none⟩ = some (.slice A0_1 x0_1.length C0_1) := cellK B0c1_7 hd8
  have R0_8 := Lib.hid (show AwR w8 A0_1 x0_1 from AwR.below R0_7.out hd8)
  have Y1_8 := Lib.hid (show RowW .i64 w8 (.slice _ y1.length _) y1 from RowW.below Y1_7.out hd8)
  have Y2_8 := Lib.hid (show RowW .i64 w8 (.slice _ y2.length _) y2 from RowW.below Y2_7.out hd8)
  have Kx_8 := Lib.hid (show BlkV w8 gx 91 (awsV x0_1) from Kx_7.out.below hd8 Kx_7.out.lt)
  clear B0c0_7 B0c1_7 R0_7 Y1_7 Y2_7 Kx_7
  have x0_8 : w8.cell? ⟨px, 0, none⟩ = some (.int .i64 a0_0) := (by rw [hL8, hpx]; simp)
  have x1_8 : w8.cell? ⟨px, 1, none⟩ = some (.slice (some ⟨gx, 0, none⟩) x0_1.length x0_1.length) := (by rw [hL8, hpx]; simp)
  clear hd8 hL8 hpx
  go_wp2_with fail
  (with_reducible refine (toInt64S_any _ y1 _ Y1_8.out hl1).mono ?_)
  rintro e w9 ⟨gx1, rfl, hr9, hd9⟩
  have HB_9 := Lib.hid (show Below w.heap.size w w9 from HB_8.out.trans (hd9.mono HB_8.out.size))
  have B0c0_9 : w9.cell? ⟨p0, 0, none⟩ = some (.int .i64 a0_0) := cellK B0c0_8 hd9
  have B0c1_9 : w9.cell? ⟨p0, 1, none⟩ = some (.slice A0_1 x0_1.length C0_1) := cellK B0c1_8 hd9
  have R0_9 := Lib.hid (show AwR w9 A0_1 x0_1 from AwR.below R0_8.out hd9)
  have Y1_9 := Lib.hid (show RowW .i64 w9 (.slice _ y1.length _) y1 from RowW.below Y1_8.out hd9)
  have Y2_9 := Lib.hid (show RowW .i64 w9 (.slice _ y2.length _) y2 from RowW.below Y2_8.out hd9)
  have Kx_9 := Lib.hid (show BlkV w9 gx 91 (awsV x0_1) from Kx_8.out.below hd9 Kx_8.out.lt)
  have x0_9 : w9.cell? ⟨px, 0, none⟩ = some (.int .i64 a0_0) := cellK x0_8 hd9
  have x1_9 : w9.cell? ⟨px, 1, none⟩ = some (.slice (some ⟨gx, 0, none⟩) x0_1.length x0_1.length) := cellK x1_8 hd9
  clear B0c0_8 B0c1_8 R0_8 Y1_8 Y2_8 Kx_8 x0_8 x1_8
  have Qx1_9 := Lib.hid (show Row .i64 w9 (.slice (some ⟨gx1, 0, none⟩) y1.length y1.length) y1 from hr9)
  clear hr9
  clear hd9
  go_wp2_with fail
  (with_reducible refine (toInt64S_any _ y2 _ Y2_9.out hl2).mono ?_)
  rintro e w10 ⟨gx2, rfl, hr10, hd10⟩
  have HB_10 := Lib.hid (show Below w.heap.size w w10 from HB_9.out.trans (hd10.mono HB_9.out.size))
  have B0c0_10 : w10.cell? ⟨p0, 0, none⟩ = some (.int .i64 a0_0) := cellK B0c0_9 hd10
  have B0c1_10 : w10.cell? ⟨p0, 1, none⟩ = some (.slice A0_1 x0_1.length C0_1) := cellK B0c1_9 hd10
  have R0_10 := Lib.hid (show AwR w10 A0_1 x0_1 from AwR.below R0_9.out hd10)
  have Y1_10 := Lib.hid (show RowW .i64 w10 (.slice _ y1.length _) y1 from RowW.below Y1_9.out hd10)
  have Y2_10 := Lib.hid (show RowW .i64 w10 (.slice _ y2.length _) y2 from RowW.below Y2_9.out hd10)
  have Kx_10 := Lib.hid (show BlkV w10 gx 91 (awsV x0_1) from Kx_9.out.below hd10 Kx_9.out.lt)
  have x0_10 : w10.cell? ⟨px, 0, none⟩ = some (.int .i64 a0_0) := cellK x0_9 hd10
  have x1_10 : w10.cell? ⟨px, 1, none⟩ = some (.slice (some ⟨gx, 0, none⟩) x0_1.length x0_1.length) := cellK x1_9 hd10
  have Qx1_10 := Lib.hid (show Row .i64 w10 (.slice (some ⟨gx1, 0, none⟩) y1.length y1.length) y1 from Row.below Qx1_9.out hd10)
  clear B0c0_9 B0c1_9 R0_9 Y1_9 Y2_9 Kx_9 x0_9 x1_9 Qx1_9
  have Qx2_10 := Lib.hid (show Row .i64 w10 (.slice (some ⟨gx2, 0, none⟩) y2.length y2.length) y2 from hr10)
  clear hr10
  clear hd10
  go_wp2_with fail
  (with_reducible refine (iStrongestMesh_any a0_0 (some ⟨gx, 0, none⟩) x0_1.length x0_1 _ y1 _ y2  _ Kx_10.out.awr S0.out HL0.out Qx1_10.out hl1 Qx2_10.out hl2).mono ?_)
  rintro e w11 ⟨rfl, hd11⟩
  have HB_11 := Lib.hid (show Below w.heap.size w w11 from HB_10.out.trans (hd11.mono HB_10.out.size))
  have B0c0_11 : w11.cell? ⟨p0, 0, none⟩ = some (.int .i64 a0_0) := cellK B0c0_10 hd11
  have B0c1_11 : w11.cell? ⟨p0, 1, none⟩ = some (.slice A0_1 x0_1.length C0_1) := cellK B0c1_10 hd11
  have R0_11 := Lib.hid (show AwR w11 A0_1 x0_1 from AwR.below R0_10.out hd11)
  have Y1_11 := Lib.hid (show RowW .i64 w11 (.slice _ y1.length _) y1 from RowW.below Y1_10.out hd11)
  have Y2_11 := Lib.hid (show RowW .i64 w11 (.slice _ y2.length _) y2 from RowW.below Y2_10.out hd11)
  have Kx_11 := Lib.hid (show BlkV w11 gx 91 (awsV x0_1) from Kx_10.out.below hd11 Kx_10.out.lt)
  have x0_11 : w11.cell? ⟨px, 0, none⟩ = some (.int .i64 a0_0) := cellK x0_10 hd11
  have x1_11 : w11.cell? ⟨px, 1, none⟩ = some (.slice (some ⟨gx, 0, none⟩) x0_1.length x0_1.length) := cellK x1_10 hd11
  have Qx1_11 := Lib.hid (show Row .i64 w11 (.slice (some ⟨gx1, 0, none⟩) y1.length y1.length) y1 from Row.below Qx1_10.out hd11)
  have Qx2_11 := Lib.hid (show Row .i64 w11 (.slice (some ⟨gx2, 0, none⟩) y2.length y2.length) y2 from Row.below Qx2_10.out hd11)
  clear B0c0_10 B0c1_10 R0_10 Y1_10 Y2_10 Kx_10 x0_10 x1_10 Qx1_10 Qx2_10
  clear hd11
  go_wp2_with fail
  refine wp_region_held (S := fun w' => w'.cell? ⟨px, 0, none⟩ = some (.int .i64 a0_0) ∧ w'.cell? ⟨px, 1, none⟩ = some (.slice (some ⟨gx, 0, none⟩) x0_1.length x0_1.length) ∧ w'.cell? ⟨p0, 0, none⟩ = some (.int .i64 a0_0) ∧ w'.cell? ⟨p0, 1, none⟩ = some (.slice A0_1 x0_1.length C0_1) ∧ Below w11.heap.size w11 w') (by kernel_rfl) ?_
  try (change wpAnyH _ _ _ _ _ _ _ _ (World.drew _))
  have hS0 := (show w11.drew.cell? ⟨px, 0, none⟩ = some (.int .i64 a0_0) ∧ w11.drew.cell? ⟨px, 1, none⟩ = some (.slice (some ⟨gx, 0, none⟩) x0_1.length x0_1.length) ∧ w11.drew.cell? ⟨p0, 0, none⟩ = some (.int .i64 a0_0) ∧ w11.drew.cell? ⟨p0, 1, none⟩ = some (.slice A0_1 x0_1.length C0_1) ∧ Below w11.heap.size w11 w11.drew from ⟨x0_11, x1_11, B0c0_11, B0c1_11, Below.drew (Below.refl _ _)⟩)
  refine gTake 0 (v := ?_) rfl (by kernel_rfl) (by kernel_rfl) (by kernel_rfl) (fun _ _ _ h => h) (by kernel_rfl) ?_ hS0 ?_
  rotate_left
  · (intro W hW; have q0 := hW.1; have q1 := hW.2.1; have q2 := hW.2.2.1; have q3 := hW.2.2.2.1; clear hW; go_simp; try with_reducible rfl)
  refine gTake 1 (v := ?_) rfl (by kernel_rfl) (by kernel_rfl) (by kernel_rfl) (fun _ _ _ h => h) (by kernel_rfl) ?_ hS0 ?_
  rotate_left
  · (intro W hW; have q0 := hW.1; have q1 := hW.2.1; have q2 := hW.2.2.1; have q3 := hW.2.2.2.1; clear hW; go_simp; try with_reducible rfl)
  refine gOne 2 rfl (by kernel_rfl) (by kernel_rfl) (fun K hK => ?_)
  go_simp
  go_at_call 23
  (with_reducible refine (toMine_any a0_0 A0_1 C0_1 x0_1 _ (R0_11.out.below hS0.2.2.2.2) HL0.out).mono ?_)
  rintro e wq0 ⟨gy, rfl, hk, hgy, hdq0⟩
  have KY := Lib.hid hk
  clear hk hgy
  try go_simp
  have hS1 := (show wq0.cell? ⟨px, 0, none⟩ = some (.int .i64 a0_0) ∧ wq0.cell? ⟨px, 1, none⟩ = some (.slice (some ⟨gx, 0, none⟩) x0_1.length x0_1.length) ∧ wq0.cell? ⟨p0, 0, none⟩ = some (.int .i64 a0_0) ∧ wq0.cell? ⟨p0, 1, none⟩ = some (.slice A0_1 x0_1.length C0_1) ∧ Below w11.heap.size w11 wq0 from ⟨cellK hS0.1 hdq0, cellK hS0.2.1 hdq0, cellK hS0.2.2.1 hdq0, cellK hS0.2.2.2.1 hdq0, hS0.2.2.2.2.trans (hdq0.mono hS0.2.2.2.2.size)⟩)
  refine hK _ _ hS1 ?_
  clear hK K
  refine gOne 3 rfl (by kernel_rfl) (by kernel_rfl) (fun K hK => ?_)
  go_simp
  go_at_call 27
  (with_reducible refine (eqMine_same a0_0 (some ⟨gx, 0, none⟩) (some ⟨gy, 0, none⟩) x0_1.length x0_1.length x0_1 _ (Kx_11.out.awr.below hS1.2.2.2.2) KY.out.awr HL0.out).mono ?_)
  rintro e wq1 ⟨rfl, hdq1⟩
  try go_simp
  have hS2 := (show wq1.cell? ⟨px, 0, none⟩ = some (.int .i64 a0_0) ∧ wq1.cell? ⟨px, 1, none⟩ = some (.slice (some ⟨gx, 0, none⟩) x0_1.length x0_1.length) ∧ wq1.cell? ⟨p0, 0, none⟩ = some (.int .i64 a0_0) ∧ wq1.cell? ⟨p0, 1, none⟩ = some (.slice A0_1 x0_1.length C0_1) ∧ Below w11.heap.size w11 wq1 from ⟨cellK hS1.1 hdq1, cellK hS1.2.1 hdq1, cellK hS1.2.2.1 hdq1, cellK hS1.2.2.2.1 hdq1, hS1.2.2.2.2.trans (hdq1.mono hS1.2.2.2.2.size)⟩)
  refine hK _ _ hS2 ?_
  clear hK K
  refine gTake 4 (v := ?_) rfl (by kernel_rfl) (by kernel_rfl) (by kernel_rfl) (fun _ _ _ h => h) (by kernel_rfl) ?_ hS2 ?_
  rotate_left
  · (intro W hW; clear hW; go_simp; try with_reducible rfl)
  refine wpAnyH_done (by kernel_rfl) ?_ _
  go_simp
  have hd12 := hS2.2.2.2.2
  obtain ⟨w12, hL12⟩ : ∃ x, x = wq1 := ⟨_, rfl⟩
  rw [← hL12] at hd12 ⊢
  have HB_12 := Lib.hid (show Below w.heap.size w w12 from HB_11.out.trans (hd12.mono HB_11.out.size))
  have B0c0_12 : w12.cell? ⟨p0, 0, none⟩ = some (.int .i64 a0_0) := cellK B0c0_11 hd12
  have B0c1_12 : w12.cell? ⟨p0, 1, none⟩ = some (.slice A0_1 x0_1.length C0_1) := cellK B0c1_11 hd12
  have R0_12 := Lib.hid (show AwR w12 A0_1 x0_1 from AwR.below R0_11.out hd12)
  have Y1_12 := Lib.hid (show RowW .i64 w12 (.slice _ y1.length _) y1 from RowW.below Y1_11.out hd12)
  have Y2_12 := Lib.hid (show RowW .i64 w12 (.slice _ y2.length _) y2 from RowW.below Y2_11.out hd12)
  have Kx_12 := Lib.hid (show BlkV w12 gx 91 (awsV x0_1) from Kx_11.out.below hd12 Kx_11.out.lt)
  have x0_12 : w12.cell? ⟨px, 0, none⟩ = some (.int .i64 a0_0) := cellK x0_11 hd12
  have x1_12 : w12.cell? ⟨px, 1, none⟩ = some (.slice (some ⟨gx, 0, none⟩) x0_1.length x0_1.length) := cellK x1_11 hd12
  have Qx1_12 := Lib.hid (show Row .i64 w12 (.slice (some ⟨gx1, 0, none⟩) y1.length y1.length) y1 from Row.below Qx1_11.out hd12)
  have Qx2_12 := Lib.hid (show Row .i64 w12 (.slice (some ⟨gx2, 0, none⟩) y2.length y2.length) y2 from Row.below Qx2_11.out hd12)
  clear B0c0_11 B0c1_11 R0_11 Y1_11 Y2_11 Kx_11 x0_11 x1_11 Qx1_11 Qx2_11
  clear hd12 hL12
  clear hS0 hS1 hS2 hdq0 hdq1 KY
  go_wp2_with fail
  (with_reducible refine (toInt64S_any _ y1 _ Y1_12.out hl1).mono ?_)
  rintro e w13 ⟨gy1, rfl, hr13, hd13⟩
  have HB_13 := Lib.hid (show Below w.heap.size w w13 from HB_12.out.trans (hd13.mono HB_12.out.size))
  have B0c0_13 : w13.cell? ⟨p0, 0, none⟩ = some (.int .i64 a0_0) := cellK B0c0_12 hd13
  have B0c1_13 : w13.cell? ⟨p0, 1, none⟩ = some (.slice A0_1 x0_1.length C0_1) := cellK B0c1_12 hd13
  have R0_13 := Lib.hid (show AwR w13 A0_1 x0_1 from AwR.below R0_12.out hd13)
  have Y1_13 := Lib.hid (show RowW .i64 w13 (.slice _ y1.length _) y1 from RowW.below Y1_12.out hd13)
  have Y2_13 := Lib.hid (show RowW .i64 w13 (.slice _ y2.length _) y2 from RowW.below Y2_12.out hd13)
  have Kx_13 := Lib.hid (show BlkV w13 gx 91 (awsV x0_1) from Kx_12.out.below hd13 Kx_12.out.lt)
  have x0_13 : w13.cell? ⟨px, 0, none⟩ = some (.int .i64 a0_0) := cellK x0_12 hd13
  have x1_13 : w13.cell? ⟨px, 1, none⟩ = some (.slice (some ⟨gx, 0, none⟩) x0_1.length x0_1.length) := cellK x1_12 hd13
  have Qx1_13 := Lib.hid (show Row .i64 w13 (.slice (some ⟨gx1, 0, none⟩) y1.length y1.length) y1 from Row.below Qx1_12.out hd13)
  have Qx2_13 := Lib.hid (show Row .i64 w13 (.slice (some ⟨gx2, 0, none⟩) y2.length y2.length) y2 from Row.below Qx2_12.out hd13)
  clear B0c0_12 B0c1_12 R0_12 Y1_12 Y2_12 Kx_12 x0_12 x1_12 Qx1_12 Qx2_12
  have Qy1_13 := Lib.hid (show Row .i64 w13 (.slice (some ⟨gy1, 0, none⟩) y1.length y1.length) y1 from hr13)
  clear hr13
  clear hd13
  go_wp2_with fail
  (with_reducible refine (eqInt64S_same _ _ y1 _ Qx1_13.out Qy1_13.out (by omega)).mono ?_)
  rintro e w14 ⟨rfl, n14, hn14⟩
  have hd14 : Below w13.heap.size w13 w14 := hn14 ▸ below_drewN (Below.refl _ _) n14
  have HB_14 := Lib.hid (show Below w.heap.size w w14 from HB_13.out.trans (hd14.mono HB_13.out.size))
  have B0c0_14 : w14.cell? ⟨p0, 0, none⟩ = some (.int .i64 a0_0) := cellK B0c0_13 hd14
  have B0c1_14 : w14.cell? ⟨p0, 1, none⟩ = some (.slice A0_1 x0_1.length C0_1) := cellK B0c1_13 hd14
  have R0_14 := Lib.hid (show AwR w14 A0_1 x0_1 from AwR.below R0_13.out hd14)
  have Y1_14 := Lib.hid (show RowW .i64 w14 (.slice _ y1.length _) y1 from RowW.below Y1_13.out hd14)
  have Y2_14 := Lib.hid (show RowW .i64 w14 (.slice _ y2.length _) y2 from RowW.below Y2_13.out hd14)
  have Kx_14 := Lib.hid (show BlkV w14 gx 91 (awsV x0_1) from Kx_13.out.below hd14 Kx_13.out.lt)
  have x0_14 : w14.cell? ⟨px, 0, none⟩ = some (.int .i64 a0_0) := cellK x0_13 hd14
  have x1_14 : w14.cell? ⟨px, 1, none⟩ = some (.slice (some ⟨gx, 0, none⟩) x0_1.length x0_1.length) := cellK x1_13 hd14
  have Qx1_14 := Lib.hid (show Row .i64 w14 (.slice (some ⟨gx1, 0, none⟩) y1.length y1.length) y1 from Row.below Qx1_13.out hd14)
  have Qx2_14 := Lib.hid (show Row .i64 w14 (.slice (some ⟨gx2, 0, none⟩) y2.length y2.length) y2 from Row.below Qx2_13.out hd14)
  have Qy1_14 := Lib.hid (show Row .i64 w14 (.slice (some ⟨gy1, 0, none⟩) y1.length y1.length) y1 from Row.below Qy1_13.out hd14)
  clear B0c0_13 B0c1_13 R0_13 Y1_13 Y2_13 Kx_13 x0_13 x1_13 Qx1_13 Qx2_13 Qy1_13
  clear hd14 hn14
  go_wp2_with fail
  (with_reducible refine (toInt64S_any _ y2 _ Y2_14.out hl2).mono ?_)
  rintro e w15 ⟨gy2, rfl, hr15, hd15⟩
  have HB_15 := Lib.hid (show Below w.heap.size w w15 from HB_14.out.trans (hd15.mono HB_14.out.size))
  have B0c0_15 : w15.cell? ⟨p0, 0, none⟩ = some (.int .i64 a0_0) := cellK B0c0_14 hd15
  have B0c1_15 : w15.cell? ⟨p0, 1, none⟩ = some (.slice A0_1 x0_1.length C0_1) := cellK B0c1_14 hd15
  have R0_15 := Lib.hid (show AwR w15 A0_1 x0_1 from AwR.below R0_14.out hd15)
  have Y1_15 := Lib.hid (show RowW .i64 w15 (.slice _ y1.length _) y1 from RowW.below Y1_14.out hd15)
  have Y2_15 := Lib.hid (show RowW .i64 w15 (.slice _ y2.length _) y2 from RowW.below Y2_14.out hd15)
  have Kx_15 := Lib.hid (show BlkV w15 gx 91 (awsV x0_1) from Kx_14.out.below hd15 Kx_14.out.lt)
  have x0_15 : w15.cell? ⟨px, 0, none⟩ = some (.int .i64 a0_0) := cellK x0_14 hd15
  have x1_15 : w15.cell? ⟨px, 1, none⟩ = some (.slice (some ⟨gx, 0, none⟩) x0_1.length x0_1.length) := cellK x1_14 hd15
  have Qx1_15 := Lib.hid (show Row .i64 w15 (.slice (some ⟨gx1, 0, none⟩) y1.length y1.length) y1 from Row.below Qx1_14.out hd15)
  have Qx2_15 := Lib.hid (show Row .i64 w15 (.slice (some ⟨gx2, 0, none⟩) y2.length y2.length) y2 from Row.below Qx2_14.out hd15)
  clear B0c0_14 B0c1_14 R0_14 Y1_14 Y2_14 Kx_14 x0_14 x1_14 Qx1_14 Qx2_14
  have Qy2_15 := Lib.hid (show Row .i64 w15 (.slice (some ⟨gy2, 0, none⟩) y2.length y2.length) y2 from hr15)
  clear hr15
  clear hd15
  go_wp2_with fail
  (with_reducible refine (eqInt64S_same _ _ y2 _ Qx2_15.out Qy2_15.out (by omega)).mono ?_)
  rintro e w16 ⟨rfl, n16, hn16⟩
  have hd16 : Below w15.heap.size w15 w16 := hn16 ▸ below_drewN (Below.refl _ _) n16
  have HB_16 := Lib.hid (show Below w.heap.size w w16 from HB_15.out.trans (hd16.mono HB_15.out.size))
  have B0c0_16 : w16.cell? ⟨p0, 0, none⟩ = some (.int .i64 a0_0) := cellK B0c0_15 hd16
  have B0c1_16 : w16.cell? ⟨p0, 1, none⟩ = some (.slice A0_1 x0_1.length C0_1) := cellK B0c1_15 hd16
  have R0_16 := Lib.hid (show AwR w16 A0_1 x0_1 from AwR.below R0_15.out hd16)
  have Y1_16 := Lib.hid (show RowW .i64 w16 (.slice _ y1.length _) y1 from RowW.below Y1_15.out hd16)
  have Y2_16 := Lib.hid (show RowW .i64 w16 (.slice _ y2.length _) y2 from RowW.below Y2_15.out hd16)
  have Kx_16 := Lib.hid (show BlkV w16 gx 91 (awsV x0_1) from Kx_15.out.below hd16 Kx_15.out.lt)
  have x0_16 : w16.cell? ⟨px, 0, none⟩ = some (.int .i64 a0_0) := cellK x0_15 hd16
  have x1_16 : w16.cell? ⟨px, 1, none⟩ = some (.slice (some ⟨gx, 0, none⟩) x0_1.length x0_1.length) := cellK x1_15 hd16
  have Qx1_16 := Lib.hid (show Row .i64 w16 (.slice (some ⟨gx1, 0, none⟩) y1.length y1.length) y1 from Row.below Qx1_15.out hd16)
  have Qx2_16 := Lib.hid (show Row .i64 w16 (.slice (some ⟨gx2, 0, none⟩) y2.length y2.length) y2 from Row.below Qx2_15.out hd16)
  have Qy2_16 := Lib.hid (show Row .i64 w16 (.slice (some ⟨gy2, 0, none⟩) y2.length y2.length) y2 from Row.below Qy2_15.out hd16)
  clear B0c0_15 B0c1_15 R0_15 Y1_15 Y2_15 Kx_15 x0_15 x1_15 Qx1_15 Qx2_15 Qy2_15
  clear hd16 hn16
  go_wp2
  go_ret
  exact ⟨rfl, HB_16.out⟩

set_option maxRecDepth 100000 in
theorem contract (H : Type) (enc : TypeId × Value → H) (W : World) (base : Nat) (args : Array Value) (ds gs : List (DataW H)) (before : List MemPlace)
    (hval : ∀ (j : Nat) t v, Try.f11.params[j]? = some t → args[j]? = some v → Value.okWide Try.prog W .any base t v)
    (hW : DataW.Whole enc Try.prog Try.f11.params.toList Rows.fnExactStrongestMeshSpec.vars false W args.toList ds gs before) :
    Calls Try.prog 11 args W fun e W' => ∃ v, e = .returned v ∧ Rows.fnExactStrongestMeshSpec.post enc Try.prog Try.f11 false true false false W args v W' := by
  have hW' := hW
  obtain ⟨p, q, hA0, hV, rfl, hfz, hnd⟩ := hW
  have hA : DataW.TrodAll enc Try.prog W 0 (fun _ => true) true Try.f11.params.toList args.toList ds p := hA0
  rw [Try.params11] at hA hval
  obtain ⟨v0, vs0, d0, ds0, p0, q0, hargs, rfl, rfl, h0, r0⟩ := trodAll_cons hA
  obtain ⟨v1, vs1, d1, ds1, p1, q1, rfl, rfl, rfl, h1, r1⟩ := trodAll_cons r0
  obtain ⟨v2, vs2, d2, ds2, p2, q2, rfl, rfl, rfl, h2, r2⟩ := trodAll_cons r1
  obtain ⟨rfl, rfl, rfl⟩ := trodAll_nil r2
  obtain rfl : args = #[v0, v1, v2] := by cases args; simp_all
  obtain ⟨rfl, rfl⟩ := trodVars_none hV
  have k0 := h0
  have lt0 : ∀ x ∈ p0, x.block < W.heap.size := by obtain ⟨m, hm⟩ := k0; exact DataW.trod_lt m _ _ _ hm
  obtain ⟨l0, rfl, ll0, hf0⟩ := open_fields Try.underlying29 (by kernel_rfl) (by kernel_rfl) (hval 0 29 v0 rfl rfl) h0
  obtain ⟨c0_0, n0_0, y0_0, e0_0, t0_0⟩ := hf0 0 _ rfl
  obtain ⟨a0_0, q0_0, _, w0_0⟩ := DataW.trod_int Try.underlying2 t0_0
  obtain ⟨c0_1, n0_1, y0_1, e0_1, t0_1⟩ := hf0 1 _ rfl
  obtain ⟨A0_1, C0_1, x0_1, q0_1, l0_1, r0_1, f0_1⟩ := open_aws t0_1
  obtain rfl := List.cons.inj q0_0 |>.1
  obtain rfl := List.cons.inj q0_1 |>.1
  obtain rfl : l0 = [.int .i64 a0_0, .slice A0_1 x0_1.length C0_1] := by
    match l0, ll0, e0_0, e0_1 with
    | [x0, x1], _, z0, z1 => simp at z0 z1; simp [z0, z1]
  obtain ⟨a1, len1, cap1, rfl⟩ := okWide_slice Try.underlying30 (hval 1 30 v1 rfl rfl)
  have k1 := h1
  have lt1 : ∀ x ∈ p1, x.block < W.heap.size := by obtain ⟨m, hm⟩ := k1; exact DataW.trod_lt m _ _ _ hm
  obtain ⟨z1, w1⟩ : ∃ zs, IsRow .i64 W a1 len1 cap1 zs := by
    obtain ⟨fuel, hf⟩ := h1
    rcases open_ints Try.underlying30 Try.underlying2 (by kernel_rfl) hf with ⟨hcs, _⟩ | ⟨x, l, c, zs, hcs, _, hl, hm, hz, _, hcell, hwz⟩
    · simp [Value.cells] at hcs
      obtain ⟨rfl, rfl, rfl⟩ := hcs
      exact ⟨[], .inl ⟨rfl, rfl, rfl, rfl⟩⟩
    · simp [Value.cells] at hcs
      obtain ⟨rfl, rfl, rfl⟩ := hcs
      exact ⟨zs, .inr ⟨_, rfl, hl, hm, by simpa using hz, hcell, hwz⟩⟩
  obtain ⟨a2, len2, cap2, rfl⟩ := okWide_slice Try.underlying30 (hval 2 30 v2 rfl rfl)
  have k2 := h2
  have lt2 : ∀ x ∈ p2, x.block < W.heap.size := by obtain ⟨m, hm⟩ := k2; exact DataW.trod_lt m _ _ _ hm
  obtain ⟨z2, w2⟩ : ∃ zs, IsRow .i64 W a2 len2 cap2 zs := by
    obtain ⟨fuel, hf⟩ := h2
    rcases open_ints Try.underlying30 Try.underlying2 (by kernel_rfl) hf with ⟨hcs, _⟩ | ⟨x, l, c, zs, hcs, _, hl, hm, hz, _, hcell, hwz⟩
    · simp [Value.cells] at hcs
      obtain ⟨rfl, rfl, rfl⟩ := hcs
      exact ⟨[], .inl ⟨rfl, rfl, rfl, rfl⟩⟩
    · simp [Value.cells] at hcs
      obtain ⟨rfl, rfl, rfl⟩ := hcs
      exact ⟨zs, .inr ⟨_, rfl, hl, hm, by simpa using hz, hcell, hwz⟩⟩
  clear hA0
  refine (walk W a0_0 w0_0 A0_1 C0_1 x0_1 l0_1 r0_1 f0_1 a1 len1 cap1 z1 w1 a2 len2 cap2 z2 w2).mono fun e W' ⟨he, bel⟩ => ?_
  subst he
  exact ⟨_, rfl, _, _, _, [], _, [], hW', trodAll_mk1 (shut_bool Try.underlying4 _), (trodAll_cons_mk (Below.trod laidOut (by kernel_rfl) (of_decide_eq_true (by kernel_rfl)) k0 bel lt0) (trodAll_cons_mk (Below.trod laidOut (by kernel_rfl) (of_decide_eq_true (by kernel_rfl)) k1 bel lt1) (trodAll_cons_mk (Below.trod laidOut (by kernel_rfl) (of_decide_eq_true (by kernel_rfl)) k2 bel lt2) trodAll_mk0))), rfl, bel.frame _, fun h => by cases h⟩

set_option maxRecDepth 100000 in
theorem lifted (os : Os) (started : os.Started) (H : Type) (enc : TypeId × Value → H) :
    ReturnsInHanded {} Try.checked os 11 .any (Rows.fnExactStrongestMeshSpec.pre6 enc Try.prog Try.f11 Rows.fnExactStrongestMeshRow.domain false) (Rows.fnExactStrongestMeshSpec.post enc Try.prog Try.f11 false true false false) := by
  refine returnsInHanded_of_change (C := Try.checked) own started (by kernel_rfl) Try.func11
    (ChangeSpec.witness6 (enc := enc) (C := Try.checked) false ⟨#[], #[.agg #[.int .i64 0, .slice none 0 0], .slice none 0 0, .slice none 0 0], []⟩ 8 (by kernel_rfl) (by kernel_rfl) (by kernel_rfl) (by kernel_rfl)) ?_
  intro W base args ds gs before hval hW hcnd _
  exact contract H enc W base args ds gs before hval hW

theorem proved : Rows.FnExactStrongestMeshSaid :=
  OpenClaim.holds_of_wide 11 Try.f11 rfl rfl rfl rfl rfl rfl rfl ⟨rfl, rfl, rfl, rfl, rfl⟩ rfl rfl rfl rfl rfl (by kernel_rfl) Try.func11 (by kernel_rfl)
    (of_decide_eq_true (by kernel_rfl)) (by unfold Func.isWrapper; first | (rw [if_pos (by decide +kernel)]; kernel_rfl) | (rw [if_neg (by decide +kernel)]; exact ⟨rfl, rfl⟩))
    (fun os started H enc _ => lifted os started H enc)
#print axioms proved
end Go.Proofs.Ytjooebiiceillaa.fnExactStrongestMesh
