/-
  PROVED: for every input the function laws.FnExactLeastPush returns true and leaves its arguments as they were. Conditions: the package-level variables that the row lists hold what the program text lays (the card ties them).
-/
import Derived.Test.YthbofhlfggkolaaDoorCards
import Derived.Test.YthbofhlfggkolaaDoorTie
import Derived.Test.YthbofhlfggkolaaDoorLq
import Derived.Test.YthbofhlfggkolaaDoorJo
import Derived.Test.YthbofhlfggkolaaDoorGg
import Derived.Test.YthbofhlfggkolaaDoorFx
import Derived.WalkKit
import Derived.ProofKit
import Derived.OpenShut
import Derived.ShutString
import Derived.ChangeOld
import Derived.Below
import Derived.Carry
import Derived.OpenVars
import Derived.ChangeVars
import Derived.Lib.SmallJoins
import Derived.ChangeArms
import Derived.Deep.DeepHandedRow
import Derived.Lib.LaidTab
import Derived.MakeChecks
import Derived.Stop.LaidErr
import Derived.Deep.DeepWitnessRowRef
import Derived.Lib.LaidIn
namespace Go.Proofs.YthbofhlfggkolaaDoor.fnExactLeastPush
open Go.ChangeShapes Go.WideShapes Go.ChangeAt Go.RowKit
open Go.ChangeMaps (open_string shut_string)
open Go.Joins Go.Deep
set_option linter.unusedVariables false
set_option linter.unusedSimpArgs false

theorem own : ownKnob Tryd.prog.godebug = none := by kernel_rfl
theorem laidOut : laidOutB Tryd.prog = true := by kernel_rfl
section
variable {H : Type} {enc : TypeId × Value → H} {P : Program} {w : World} {base : Nat} {spare : Nat → Bool} {held : Bool}
theorem open_fields {r : Reach} {b0 : Nat} {t : TypeId} {fs : Array Field} {v : Value} {d : DataW H} {p : List MemPlace} (hs : P.underlying t = some (.struct fs)) (hone : oneCellFields P fs = true) (hC : P.cellsOf t = fs.size)
    (hv : Value.okWide P w r b0 t v) (h : DataW.Trod enc P w base spare held t v d p) :
    ∃ l : List Value, v = .agg ⟨l⟩ ∧ l.length = fs.size ∧ ∀ (j : Nat) (f : Field), fs[j]? = some f → ∃ (c : Value) (n : Nat) (y : DataW H × List MemPlace), l[j]? = some c ∧ DataW.trod enc P w base spare held n f.type [c] = some y := by
  obtain ⟨cs, rfl, hsz⟩ := okWide_struct hs hv
  obtain ⟨l⟩ := cs
  obtain ⟨fuel, hf⟩ := h
  obtain ⟨xs, n, _, _, _, hlen, hg⟩ := DataW.trod_struct hs hf
  have hl : l.length = fs.size := by simpa using hsz.trans hC
  refine ⟨l, rfl, hl, fun j f hj => ?_⟩
  obtain ⟨o, k⟩ := hone_of hone j f hj
  have hjf : j < fs.size := (Array.getElem?_eq_some_iff.1 hj).1
  have hjl : j < l.length := by omega
  have h1 := hg j f hj
  rw [o, k] at h1
  have e : (l.drop j).take 1 = [l[j]] := by
    rw [List.drop_eq_getElem_cons hjl]; rfl
  replace h1 : DataW.trod enc P w base spare held n f.type ((l.drop j).take 1) = xs[j]? := by simpa [Value.cells] using h1
  rw [e] at h1
  have hx : xs[j]? = some (xs[j]'(by omega)) := List.getElem?_eq_getElem (by omega)
  exact ⟨l[j], _, _, List.getElem?_eq_getElem hjl, h1.trans hx⟩
end
/-- A slice of integers that came in: nil, or a row of 'cap' cells. -/
def IsRow (k : IntKind) (w : World) (a : Option Addr) (len cap : Nat) (zs : List Int) : Prop :=
  (a = none ∧ len = 0 ∧ cap = 0 ∧ zs = []) ∨
  ∃ x, a = some x ∧ len ≤ cap ∧ cap ≤ maxLen ∧ zs.length = cap ∧ (∀ i, i < zs.length → w.cell? (x.add i) = some (.int k (zs.getD i 0))) ∧ ∀ n ∈ zs, (Lit.int k n).wf = true
theorem rowW {w : World} {a : Option Addr} {len cap : Nat} {zs : List Int} (h : IsRow .i64 w a len cap zs) : ∃ xs, xs.length = len ∧ RowW .i64 w (.slice a len cap) xs := by
  rcases h with ⟨rfl, rfl, rfl, rfl⟩ | ⟨x, rfl, hlc, hcm, hzl, hcell, hwf⟩
  · exact ⟨[], rfl, none, 0, rfl, fun j hj => absurd hj (by simp)⟩
  · have hl : (zs.take len).length = len := by rw [List.length_take]; omega
    refine ⟨zs.take len, hl, some x, cap, by rw [hl], fun j hj => ?_⟩
    rw [hl] at hj
    have h0 := hcell 0 (by omega)
    obtain ⟨b, off, sp⟩ := x
    have hsp : sp = none := by
      unfold Addr.add World.cell? at h0
      rw [if_pos rfl] at h0
      cases sp with
      | none => rfl
      | some q => cases hq : w.heap[b]? with
        | none => simp [hq] at h0
        | some o => cases o <;> simp [hq] at h0
    subst hsp
    refine ⟨b, off, rfl, ?_⟩
    have := hcell j (by omega)
    rw [List.getD_eq_getElem?_getD, List.getElem?_take, if_pos hj, ← List.getD_eq_getElem?_getD, ← this]
    unfold Addr.add
    split
    · rename_i h; subst h; rfl
    · rfl
theorem starE : "*" ++ "errors.errorString" = "*errors.errorString" := by decide
theorem rowE (u : TypeId) (h : Tryd.prog.typeName? 3 u = some "*errors.errorString") : u = 202 :=
  typeName_ptr_named (nm := "errors.errorString") (by rw [starE]; kernel_rfl) (by kernel_rfl) (by decide) u (by rw [starE]; exact h)
theorem table {W : World} (h : laidMetH Tryd.prog Rows.fnExactLeastPushRow.laid W) : ∃ a, ErrN W a := by
  rw [Go.MakeChecks.laidMetH_plain _ _ _ (by kernel_rfl)] at h
  obtain ⟨a0, t0, hv0, _⟩ := laid_sentinel (g := 0) h (by kernel_rfl) (by kernel_rfl) Tryd.underlying79 rowE Tryd.underlying202 Tryd.underlying204 rfl rfl Tryd.underlying9 (by kernel_rfl) (by kernel_rfl)
  have h0 : W.cell? ⟨0, 0, none⟩ = some (.iface 202 (.pointer (some a0))) := by simpa using World.var?_cell (by kernel_rfl) hv0 0
  exact ⟨a0, h0⟩
set_option maxRecDepth 100000 in
set_option maxHeartbeats 4000000 in
theorem walk (w : World) (a0_0 : Int) (w0_0 : (Lit.int .i64 a0_0).wf = true) (A0_1 : Option Addr) (C0_1 : Nat) (x0_1 : List Aw) (l0_1 : x0_1.length ≤ maxLen) (r0_1 : AwR w A0_1 x0_1) (f0_1 : ∀ a ∈ x0_1, a.fits) (a1 : Option Addr) (len1 cap1 : Nat) (z1 : List Int) (w1 : IsRow .i64 w a1 len1 cap1 z1) (a2 : Option Addr) (len2 cap2 : Nat) (z2 : List Int) (w2 : IsRow .i64 w a2 len2 cap2 z2) (A3 : Option Addr) (C3 : Nat) (x3 : List Bool) (l3 : x3.length ≤ maxLen) (r3 : BoR w A3 x3) (f3 : True) (a4 : Int) (w4 : (Lit.int .i64 a4).wf = true) (hL : laidMetH Tryd.prog Rows.fnExactLeastPushRow.laid w) :
    Calls Tryd.prog 7 #[.agg #[.int .i64 a0_0, .slice A0_1 x0_1.length C0_1], .slice a1 len1 cap1, .slice a2 len2 cap2, .slice A3 x3.length C3, .int .i64 a4] w fun e w' => e = .returned (.bool true) ∧ Below w.heap.size w w' := by
  obtain ⟨ea, HE0⟩ := table hL
  have HE := Lib.hid HE0
  clear hL HE0
  have HLL0 := Lib.hid l0_1
  have HR0 := Lib.hid r0_1
  have S0 := Lib.hid (fun a ha => (f0_1 a ha).1)
  clear r0_1
  obtain ⟨x1, rfl, r1⟩ := rowW w1
  have HR1 := Lib.hid r1
  clear r1 w1
  obtain ⟨x2, rfl, r2⟩ := rowW w2
  have HR2 := Lib.hid r2
  clear r2 w2
  have HLL3 := Lib.hid l3
  have HR3 := Lib.hid r3
  clear r3
  by_cases hlong1 : 1048576 < x1.length
  · have t1 : (1048576 : Int) < (x1.length : Int) := by omega
    go_enter Tryd.func7, Tryd.ntmps7
    go_wp2
    go_ret
    exact ⟨rfl, below_box _ _⟩
  have HL1 := Lib.hid (show x1.length ≤ 1048576 by omega)
  have t1_1 : ¬ (1048576 : Int) < (x1.length : Int) := by omega
  have t2_1 : decide ((1048576 : Int) < (x1.length : Int)) = false := decide_eq_false t1_1
  clear hlong1
  by_cases hlong2 : 1048576 < x2.length
  · have t1 : (1048576 : Int) < (x2.length : Int) := by omega
    go_enter Tryd.func7, Tryd.ntmps7
    go_wp2
    go_ret
    exact ⟨rfl, below_box _ _⟩
  have HL2 := Lib.hid (show x2.length ≤ 1048576 by omega)
  have t1_2 : ¬ (1048576 : Int) < (x2.length : Int) := by omega
  have t2_2 : decide ((1048576 : Int) < (x2.length : Int)) = false := decide_eq_false t1_2
  clear hlong2
  by_cases hlong3 : 1048576 < x3.length
  · have t1 : (1048576 : Int) < (x3.length : Int) := by omega
    go_enter Tryd.func7, Tryd.ntmps7
    go_wp2
    go_ret
    exact ⟨rfl, below_box _ _⟩
  have HL3 := Lib.hid (show x3.length ≤ 1048576 by omega)
  have t1_3 : ¬ (1048576 : Int) < (x3.length : Int) := by omega
  have t2_3 : decide ((1048576 : Int) < (x3.length : Int)) = false := decide_eq_false t1_3
  clear hlong3
  by_cases hs0 : szL 1048576 x0_1 < 0
  · skip
    go_enter Tryd.func7, Tryd.ntmps7
    go_wp2_with fail
    obtain ⟨w1, hL1⟩ : ∃ x, x = (w.alloc (.cells #[.int .i64 a0_0, .slice A0_1 x0_1.length C0_1] 35)) := ⟨_, rfl⟩
    have hd1 : Below w.heap.size w w1 := hL1 ▸ below_box _ _
    rw [← hL1]
    obtain ⟨p0, hp0⟩ : ∃ p, p = w.heap.size := ⟨_, rfl⟩
    rw [← hp0]
    have HB_1 := Lib.hid (show Below w.heap.size w w1 from hd1)
    have B0c0_1 : w1.cell? ⟨p0, 0, none⟩ = some (.int .i64 a0_0) := (by rw [hL1, hp0]; simp)
    have B0c1_1 : w1.cell? ⟨p0, 1, none⟩ = some (.slice A0_1 x0_1.length C0_1) := (by rw [hL1, hp0]; simp)
    have R0_1 := Lib.hid (show AwR w1 A0_1 x0_1 from HR0.out.below hd1)
    have R1_1 := Lib.hid (show RowW .i64 w1 (.slice _ x1.length _) x1 from HR1.out.below hd1)
    have R2_1 := Lib.hid (show RowW .i64 w1 (.slice _ x2.length _) x2 from HR2.out.below hd1)
    have R3_1 := Lib.hid (show BoR w1 A3 x3 from HR3.out.below hd1)
    have E_1 := Lib.hid (show ErrN w1 ea from HE.out.below hd1)
    clear hd1 hL1 hp0
    go_wp2_with fail
    (with_reducible refine (szMine_any a0_0 A0_1 C0_1 x0_1 (1048576) _ R0_1.out S0.out HLL0.out (by omega)).mono ?_)
    rintro e w2 ⟨rfl, hd2⟩
    have HB_2 := Lib.hid (show Below w.heap.size w w2 from HB_1.out.trans (hd2.mono HB_1.out.size))
    have B0c0_2 : w2.cell? ⟨p0, 0, none⟩ = some (.int .i64 a0_0) := cellK B0c0_1 hd2
    have B0c1_2 : w2.cell? ⟨p0, 1, none⟩ = some (.slice A0_1 x0_1.length C0_1) := cellK B0c1_1 hd2
    have R0_2 := Lib.hid (show AwR w2 A0_1 x0_1 from AwR.below R0_1.out hd2)
    have R1_2 := Lib.hid (show RowW .i64 w2 (.slice _ x1.length _) x1 from RowW.below R1_1.out hd2)
    have R2_2 := Lib.hid (show RowW .i64 w2 (.slice _ x2.length _) x2 from RowW.below R2_1.out hd2)
    have R3_2 := Lib.hid (show BoR w2 A3 x3 from BoR.below R3_1.out hd2)
    have E_2 := Lib.hid (show ErrN w2 ea from ErrN.below E_1.out hd2)
    clear B0c0_1 B0c1_1 R0_1 R1_1 R2_1 R3_1 E_1
    clear hd2
    go_wp2
    go_ret
    exact ⟨rfl, HB_2.out⟩
  have HL0 := Lib.hid (show x0_1.length ≤ 1048576 from by have h8 := (szL_bd (left := 1048576) (by omega) (Int.not_lt.1 hs0)).1; omega)
  go_enter Tryd.func7, Tryd.ntmps7
  go_wp2_with fail
  obtain ⟨w1, hL1⟩ : ∃ x, x = (w.alloc (.cells #[.int .i64 a0_0, .slice A0_1 x0_1.length C0_1] 35)) := ⟨_, rfl⟩
  have hd1 : Below w.heap.size w w1 := hL1 ▸ below_box _ _
  rw [← hL1]
  obtain ⟨p0, hp0⟩ : ∃ p, p = w.heap.size := ⟨_, rfl⟩
  rw [← hp0]
  have HB_1 := Lib.hid (show Below w.heap.size w w1 from hd1)
  have B0c0_1 : w1.cell? ⟨p0, 0, none⟩ = some (.int .i64 a0_0) := (by rw [hL1, hp0]; simp)
  have B0c1_1 : w1.cell? ⟨p0, 1, none⟩ = some (.slice A0_1 x0_1.length C0_1) := (by rw [hL1, hp0]; simp)
  have R0_1 := Lib.hid (show AwR w1 A0_1 x0_1 from HR0.out.below hd1)
  have R1_1 := Lib.hid (show RowW .i64 w1 (.slice _ x1.length _) x1 from HR1.out.below hd1)
  have R2_1 := Lib.hid (show RowW .i64 w1 (.slice _ x2.length _) x2 from HR2.out.below hd1)
  have R3_1 := Lib.hid (show BoR w1 A3 x3 from HR3.out.below hd1)
  have E_1 := Lib.hid (show ErrN w1 ea from HE.out.below hd1)
  clear hd1 hL1 hp0
  go_wp2_with fail
  (with_reducible refine (szMine_any a0_0 A0_1 C0_1 x0_1 (1048576) _ R0_1.out S0.out HLL0.out (by omega)).mono ?_)
  rintro e w2 ⟨rfl, hd2⟩
  have HB_2 := Lib.hid (show Below w.heap.size w w2 from HB_1.out.trans (hd2.mono HB_1.out.size))
  have B0c0_2 : w2.cell? ⟨p0, 0, none⟩ = some (.int .i64 a0_0) := cellK B0c0_1 hd2
  have B0c1_2 : w2.cell? ⟨p0, 1, none⟩ = some (.slice A0_1 x0_1.length C0_1) := cellK B0c1_1 hd2
  have R0_2 := Lib.hid (show AwR w2 A0_1 x0_1 from AwR.below R0_1.out hd2)
  have R1_2 := Lib.hid (show RowW .i64 w2 (.slice _ x1.length _) x1 from RowW.below R1_1.out hd2)
  have R2_2 := Lib.hid (show RowW .i64 w2 (.slice _ x2.length _) x2 from RowW.below R2_1.out hd2)
  have R3_2 := Lib.hid (show BoR w2 A3 x3 from BoR.below R3_1.out hd2)
  have E_2 := Lib.hid (show ErrN w2 ea from ErrN.below E_1.out hd2)
  clear B0c0_1 B0c1_1 R0_1 R1_1 R2_1 R3_1 E_1
  clear hd2
  go_wp2_with fail
  (with_reducible refine (toMine_any a0_0 A0_1 C0_1 x0_1 _ R0_2.out HL0.out).mono ?_)
  rintro e w3 ⟨gs0, rfl, hk3, hg3, hd3⟩
  have HB_3 := Lib.hid (show Below w.heap.size w w3 from HB_2.out.trans (hd3.mono HB_2.out.size))
  have B0c0_3 : w3.cell? ⟨p0, 0, none⟩ = some (.int .i64 a0_0) := cellK B0c0_2 hd3
  have B0c1_3 : w3.cell? ⟨p0, 1, none⟩ = some (.slice A0_1 x0_1.length C0_1) := cellK B0c1_2 hd3
  have R0_3 := Lib.hid (show AwR w3 A0_1 x0_1 from AwR.below R0_2.out hd3)
  have R1_3 := Lib.hid (show RowW .i64 w3 (.slice _ x1.length _) x1 from RowW.below R1_2.out hd3)
  have R2_3 := Lib.hid (show RowW .i64 w3 (.slice _ x2.length _) x2 from RowW.below R2_2.out hd3)
  have R3_3 := Lib.hid (show BoR w3 A3 x3 from BoR.below R3_2.out hd3)
  have E_3 := Lib.hid (show ErrN w3 ea from ErrN.below E_2.out hd3)
  clear B0c0_2 B0c1_2 R0_2 R1_2 R2_2 R3_2 E_2
  have Ks0_3 := Lib.hid (show BlkV w3 gs0 86 (awsV x0_1) from hk3)
  clear hk3 hg3
  clear hd3
  go_wp2_with fail
  (with_reducible refine (toInt64S_any _ x1 _ R1_3.out HL1.out).mono ?_)
  rintro e w4 ⟨gs1, rfl, hr4, hd4⟩
  have HB_4 := Lib.hid (show Below w.heap.size w w4 from HB_3.out.trans (hd4.mono HB_3.out.size))
  have B0c0_4 : w4.cell? ⟨p0, 0, none⟩ = some (.int .i64 a0_0) := cellK B0c0_3 hd4
  have B0c1_4 : w4.cell? ⟨p0, 1, none⟩ = some (.slice A0_1 x0_1.length C0_1) := cellK B0c1_3 hd4
  have R0_4 := Lib.hid (show AwR w4 A0_1 x0_1 from AwR.below R0_3.out hd4)
  have R1_4 := Lib.hid (show RowW .i64 w4 (.slice _ x1.length _) x1 from RowW.below R1_3.out hd4)
  have R2_4 := Lib.hid (show RowW .i64 w4 (.slice _ x2.length _) x2 from RowW.below R2_3.out hd4)
  have R3_4 := Lib.hid (show BoR w4 A3 x3 from BoR.below R3_3.out hd4)
  have E_4 := Lib.hid (show ErrN w4 ea from ErrN.below E_3.out hd4)
  have Ks0_4 := Lib.hid (show BlkV w4 gs0 86 (awsV x0_1) from Ks0_3.out.below hd4 Ks0_3.out.lt)
  clear B0c0_3 B0c1_3 R0_3 R1_3 R2_3 R3_3 E_3 Ks0_3
  have Ks1_4 := Lib.hid (show Row .i64 w4 (.slice (some ⟨gs1, 0, none⟩) x1.length x1.length) x1 from hr4)
  clear hr4
  clear hd4
  go_wp2_with fail
  (with_reducible refine (toInt64S_any _ x2 _ R2_4.out HL2.out).mono ?_)
  rintro e w5 ⟨gs2, rfl, hr5, hd5⟩
  have HB_5 := Lib.hid (show Below w.heap.size w w5 from HB_4.out.trans (hd5.mono HB_4.out.size))
  have B0c0_5 : w5.cell? ⟨p0, 0, none⟩ = some (.int .i64 a0_0) := cellK B0c0_4 hd5
  have B0c1_5 : w5.cell? ⟨p0, 1, none⟩ = some (.slice A0_1 x0_1.length C0_1) := cellK B0c1_4 hd5
  have R0_5 := Lib.hid (show AwR w5 A0_1 x0_1 from AwR.below R0_4.out hd5)
  have R1_5 := Lib.hid (show RowW .i64 w5 (.slice _ x1.length _) x1 from RowW.below R1_4.out hd5)
  have R2_5 := Lib.hid (show RowW .i64 w5 (.slice _ x2.length _) x2 from RowW.below R2_4.out hd5)
  have R3_5 := Lib.hid (show BoR w5 A3 x3 from BoR.below R3_4.out hd5)
  have E_5 := Lib.hid (show ErrN w5 ea from ErrN.below E_4.out hd5)
  have Ks0_5 := Lib.hid (show BlkV w5 gs0 86 (awsV x0_1) from Ks0_4.out.below hd5 Ks0_4.out.lt)
  have Ks1_5 := Lib.hid (show Row .i64 w5 (.slice (some ⟨gs1, 0, none⟩) x1.length x1.length) x1 from Row.below Ks1_4.out hd5)
  clear B0c0_4 B0c1_4 R0_4 R1_4 R2_4 R3_4 E_4 Ks0_4 Ks1_4
  have Ks2_5 := Lib.hid (show Row .i64 w5 (.slice (some ⟨gs2, 0, none⟩) x2.length x2.length) x2 from hr5)
  clear hr5
  clear hd5
  go_wp2_with fail
  (with_reducible refine (toBoolS_own A3 C3 x3 _ R3_5.out HL3.out).mono ?_)
  rintro e w6 ⟨gs3, rfl, hk6, hd6⟩
  have HB_6 := Lib.hid (show Below w.heap.size w w6 from HB_5.out.trans (hd6.mono HB_5.out.size))
  have B0c0_6 : w6.cell? ⟨p0, 0, none⟩ = some (.int .i64 a0_0) := cellK B0c0_5 hd6
  have B0c1_6 : w6.cell? ⟨p0, 1, none⟩ = some (.slice A0_1 x0_1.length C0_1) := cellK B0c1_5 hd6
  have R0_6 := Lib.hid (show AwR w6 A0_1 x0_1 from AwR.below R0_5.out hd6)
  have R1_6 := Lib.hid (show RowW .i64 w6 (.slice _ x1.length _) x1 from RowW.below R1_5.out hd6)
  have R2_6 := Lib.hid (show RowW .i64 w6 (.slice _ x2.length _) x2 from RowW.below R2_5.out hd6)
  have R3_6 := Lib.hid (show BoR w6 A3 x3 from BoR.below R3_5.out hd6)
  have E_6 := Lib.hid (show ErrN w6 ea from ErrN.below E_5.out hd6)
  have Ks0_6 := Lib.hid (show BlkV w6 gs0 86 (awsV x0_1) from Ks0_5.out.below hd6 Ks0_5.out.lt)
  have Ks1_6 := Lib.hid (show Row .i64 w6 (.slice (some ⟨gs1, 0, none⟩) x1.length x1.length) x1 from Row.below Ks1_5.out hd6)
  have Ks2_6 := Lib.hid (show Row .i64 w6 (.slice (some ⟨gs2, 0, none⟩) x2.length x2.length) x2 from Row.below Ks2_5.out hd6)
  clear B0c0_5 B0c1_5 R0_5 R1_5 R2_5 R3_5 E_5 Ks0_5 Ks1_5 Ks2_5
  have Ks3_6 := Lib.hid (show BoR w6 (some ⟨gs3, 0, none⟩) x3 from (ownB_read hk6))
  clear hk6
  clear hd6
  go_wp2_with fail
  (with_reducible refine (sLeastPush_any a0_0 (some ⟨gs0, 0, none⟩) x0_1.length x0_1 _ x1 _ x2 (some ⟨gs3, 0, none⟩) x3.length x3 a4 _ (Ks0_6.out.awr) S0.out HL0.out Ks1_6.out HL1.out Ks2_6.out HL2.out Ks3_6.out HL3.out).mono ?_)
  rintro e w7 ⟨rfl, hd7⟩
  have HB_7 := Lib.hid (show Below w.heap.size w w7 from HB_6.out.trans (hd7.mono HB_6.out.size))
  have B0c0_7 : w7.cell? ⟨p0, 0, none⟩ = some (.int .i64 a0_0) := cellK B0c0_6 hd7
  have B0c1_7 : w7.cell? ⟨p0, 1, none⟩ = some (.slice A0_1 x0_1.length C0_1) := cellK B0c1_6 hd7
  have R0_7 := Lib.hid (show AwR w7 A0_1 x0_1 from AwR.below R0_6.out hd7)
  have R1_7 := Lib.hid (show RowW .i64 w7 (.slice _ x1.length _) x1 from RowW.below R1_6.out hd7)
  have R2_7 := Lib.hid (show RowW .i64 w7 (.slice _ x2.length _) x2 from RowW.below R2_6.out hd7)
  have R3_7 := Lib.hid (show BoR w7 A3 x3 from BoR.below R3_6.out hd7)
  have E_7 := Lib.hid (show ErrN w7 ea from ErrN.below E_6.out hd7)
  have Ks0_7 := Lib.hid (show BlkV w7 gs0 86 (awsV x0_1) from Ks0_6.out.below hd7 Ks0_6.out.lt)
  have Ks1_7 := Lib.hid (show Row .i64 w7 (.slice (some ⟨gs1, 0, none⟩) x1.length x1.length) x1 from Row.below Ks1_6.out hd7)
  have Ks2_7 := Lib.hid (show Row .i64 w7 (.slice (some ⟨gs2, 0, none⟩) x2.length x2.length) x2 from Row.below Ks2_6.out hd7)
  have Ks3_7 := Lib.hid (show BoR w7 (some ⟨gs3, 0, none⟩) x3 from Ks3_6.out.below hd7)
  clear B0c0_6 B0c1_6 R0_6 R1_6 R2_6 R3_6 E_6 Ks0_6 Ks1_6 Ks2_6 Ks3_6
  clear hd7
  go_wp2_with fail
  (with_reducible refine (toMine_any a0_0 A0_1 C0_1 x0_1 _ R0_7.out HL0.out).mono ?_)
  rintro e w8 ⟨gx0, rfl, hk8, hg8, hd8⟩
  have HB_8 := Lib.hid (show Below w.heap.size w w8 from HB_7.out.trans (hd8.mono HB_7.out.size))
  have B0c0_8 : w8.cell? ⟨p0, 0, none⟩ = some (.int .i64 a0_0) := cellK B0c0_7 hd8
  have B0c1_8 : w8.cell? ⟨p0, 1, none⟩ = some (.slice A0_1 x0_1.length C0_1) := cellK B0c1_7 hd8
  have R0_8 := Lib.hid (show AwR w8 A0_1 x0_1 from AwR.below R0_7.out hd8)
  have R1_8 := Lib.hid (show RowW .i64 w8 (.slice _ x1.length _) x1 from RowW.below R1_7.out hd8)
  have R2_8 := Lib.hid (show RowW .i64 w8 (.slice _ x2.length _) x2 from RowW.below R2_7.out hd8)
  have R3_8 := Lib.hid (show BoR w8 A3 x3 from BoR.below R3_7.out hd8)
  have E_8 := Lib.hid (show ErrN w8 ea from ErrN.below E_7.out hd8)
  clear B0c0_7 B0c1_7 R0_7 R1_7 R2_7 R3_7 E_7
  have Kx0_8 := Lib.hid (show BlkV w8 gx0 86 (awsV x0_1) from hk8)
  clear hk8 hg8
  clear hd8
  have hltp0 : p0 < w8.heap.size := World.block_lt_of_cell? _ _ B0c0_8
  have hnep0 : ¬ (p0 = w8.heap.size) := Nat.ne_of_lt hltp0
  go_wp2_with fail
  clear hltp0 hnep0
  obtain ⟨w9, hL9⟩ : ∃ x, x = w8.alloc (.cells #[.int .i64 a0_0, .slice (some ⟨gx0, 0, none⟩) x0_1.length x0_1.length] 43) := ⟨_, rfl⟩
  have hd9 : Below w8.heap.size w8 w9 := hL9 ▸ below_box _ _
  obtain ⟨px, hpx⟩ : ∃ p, p = w8.heap.size := ⟨_, rfl⟩
  rw [← hL9, ← hpx]
  have HB_9 := Lib.hid (show Below w.heap.size w w9 from HB_8.out.trans (hd9.mono HB_8.out.size))
  have B0c0_9 : w9.cell? ⟨p0, 0, none⟩ = some (.int .i64 a0_0) := cellK B0c0_8 hd9
  have B0c1_9 : w9.cell? ⟨p0, 1, none⟩ = some (.slice A0_1 x0_1.length C0_1) := cellK B0c1_8 hd9
  have R0_9 := Lib.hid (show AwR w9 A0_1 x0_1 from AwR.below R0_8.out hd9)
  have R1_9 := Lib.hid (show RowW .i64 w9 (.slice _ x1.length _) x1 from RowW.below R1_8.out hd9)
  have R2_9 := Lib.hid (show RowW .i64 w9 (.slice _ x2.length _) x2 from RowW.below R2_8.out hd9)
  have R3_9 := Lib.hid (show BoR w9 A3 x3 from BoR.below R3_8.out hd9)
  have E_9 := Lib.hid (show ErrN w9 ea from ErrN.below E_8.out hd9)
  have Kx0_9 := Lib.hid (show BlkV w9 gx0 86 (awsV x0_1) from Kx0_8.out.below hd9 Kx0_8.out.lt)
  clear B0c0_8 B0c1_8 R0_8 R1_8 R2_8 R3_8 E_8 Kx0_8
  have x0_9 : w9.cell? ⟨px, 0, none⟩ = some (.int .i64 a0_0) := (by rw [hL9, hpx]; simp)
  have x1_9 : w9.cell? ⟨px, 1, none⟩ = some (.slice (some ⟨gx0, 0, none⟩) x0_1.length x0_1.length) := (by rw [hL9, hpx]; simp)
  clear hd9 hL9 hpx
  go_wp2_with fail
  (with_reducible refine (toInt64S_any _ x1 _ R1_9.out HL1.out).mono ?_)
  rintro e w10 ⟨gx1, rfl, hr10, hd10⟩
  have HB_10 := Lib.hid (show Below w.heap.size w w10 from HB_9.out.trans (hd10.mono HB_9.out.size))
  have B0c0_10 : w10.cell? ⟨p0, 0, none⟩ = some (.int .i64 a0_0) := cellK B0c0_9 hd10
  have B0c1_10 : w10.cell? ⟨p0, 1, none⟩ = some (.slice A0_1 x0_1.length C0_1) := cellK B0c1_9 hd10
  have R0_10 := Lib.hid (show AwR w10 A0_1 x0_1 from AwR.below R0_9.out hd10)
  have R1_10 := Lib.hid (show RowW .i64 w10 (.slice _ x1.length _) x1 from RowW.below R1_9.out hd10)
  have R2_10 := Lib.hid (show RowW .i64 w10 (.slice _ x2.length _) x2 from RowW.below R2_9.out hd10)
  have R3_10 := Lib.hid (show BoR w10 A3 x3 from BoR.below R3_9.out hd10)
  have E_10 := Lib.hid (show ErrN w10 ea from ErrN.below E_9.out hd10)
  have Kx0_10 := Lib.hid (show BlkV w10 gx0 86 (awsV x0_1) from Kx0_9.out.below hd10 Kx0_9.out.lt)
  have x0_10 : w10.cell? ⟨px, 0, none⟩ = some (.int .i64 a0_0) := cellK x0_9 hd10
  have x1_10 : w10.cell? ⟨px, 1, none⟩ = some (.slice (some ⟨gx0, 0, none⟩) x0_1.length x0_1.length) := cellK x1_9 hd10
  clear B0c0_9 B0c1_9 R0_9 R1_9 R2_9 R3_9 E_9 Kx0_9 x0_9 x1_9
  have Kx1_10 := Lib.hid (show Row .i64 w10 (.slice (some ⟨gx1, 0, none⟩) x1.length x1.length) x1 from hr10)
  clear hr10
  clear hd10
  go_wp2_with fail
  (with_reducible refine (toInt64S_any _ x2 _ R2_10.out HL2.out).mono ?_)
  rintro e w11 ⟨gx2, rfl, hr11, hd11⟩
  have HB_11 := Lib.hid (show Below w.heap.size w w11 from HB_10.out.trans (hd11.mono HB_10.out.size))
  have B0c0_11 : w11.cell? ⟨p0, 0, none⟩ = some (.int .i64 a0_0) := cellK B0c0_10 hd11
  have B0c1_11 : w11.cell? ⟨p0, 1, none⟩ = some (.slice A0_1 x0_1.length C0_1) := cellK B0c1_10 hd11
  have R0_11 := Lib.hid (show AwR w11 A0_1 x0_1 from AwR.below R0_10.out hd11)
  have R1_11 := Lib.hid (show RowW .i64 w11 (.slice _ x1.length _) x1 from RowW.below R1_10.out hd11)
  have R2_11 := Lib.hid (show RowW .i64 w11 (.slice _ x2.length _) x2 from RowW.below R2_10.out hd11)
  have R3_11 := Lib.hid (show BoR w11 A3 x3 from BoR.below R3_10.out hd11)
  have E_11 := Lib.hid (show ErrN w11 ea from ErrN.below E_10.out hd11)
  have Kx0_11 := Lib.hid (show BlkV w11 gx0 86 (awsV x0_1) from Kx0_10.out.below hd11 Kx0_10.out.lt)
  have x0_11 : w11.cell? ⟨px, 0, none⟩ = some (.int .i64 a0_0) := cellK x0_10 hd11
  have x1_11 : w11.cell? ⟨px, 1, none⟩ = some (.slice (some ⟨gx0, 0, none⟩) x0_1.length x0_1.length) := cellK x1_10 hd11
  have Kx1_11 := Lib.hid (show Row .i64 w11 (.slice (some ⟨gx1, 0, none⟩) x1.length x1.length) x1 from Row.below Kx1_10.out hd11)
  clear B0c0_10 B0c1_10 R0_10 R1_10 R2_10 R3_10 E_10 Kx0_10 x0_10 x1_10 Kx1_10
  have Kx2_11 := Lib.hid (show Row .i64 w11 (.slice (some ⟨gx2, 0, none⟩) x2.length x2.length) x2 from hr11)
  clear hr11
  clear hd11
  go_wp2_with fail
  (with_reducible refine (toBoolS_own A3 C3 x3 _ R3_11.out HL3.out).mono ?_)
  rintro e w12 ⟨gx3, rfl, hk12, hd12⟩
  have HB_12 := Lib.hid (show Below w.heap.size w w12 from HB_11.out.trans (hd12.mono HB_11.out.size))
  have B0c0_12 : w12.cell? ⟨p0, 0, none⟩ = some (.int .i64 a0_0) := cellK B0c0_11 hd12
  have B0c1_12 : w12.cell? ⟨p0, 1, none⟩ = some (.slice A0_1 x0_1.length C0_1) := cellK B0c1_11 hd12
  have R0_12 := Lib.hid (show AwR w12 A0_1 x0_1 from AwR.below R0_11.out hd12)
  have R1_12 := Lib.hid (show RowW .i64 w12 (.slice _ x1.length _) x1 from RowW.below R1_11.out hd12)
  have R2_12 := Lib.hid (show RowW .i64 w12 (.slice _ x2.length _) x2 from RowW.below R2_11.out hd12)
  have R3_12 := Lib.hid (show BoR w12 A3 x3 from BoR.below R3_11.out hd12)
  have E_12 := Lib.hid (show ErrN w12 ea from ErrN.below E_11.out hd12)
  have Kx0_12 := Lib.hid (show BlkV w12 gx0 86 (awsV x0_1) from Kx0_11.out.below hd12 Kx0_11.out.lt)
  have x0_12 : w12.cell? ⟨px, 0, none⟩ = some (.int .i64 a0_0) := cellK x0_11 hd12
  have x1_12 : w12.cell? ⟨px, 1, none⟩ = some (.slice (some ⟨gx0, 0, none⟩) x0_1.length x0_1.length) := cellK x1_11 hd12
  have Kx1_12 := Lib.hid (show Row .i64 w12 (.slice (some ⟨gx1, 0, none⟩) x1.length x1.length) x1 from Row.below Kx1_11.out hd12)
  have Kx2_12 := Lib.hid (show Row .i64 w12 (.slice (some ⟨gx2, 0, none⟩) x2.length x2.length) x2 from Row.below Kx2_11.out hd12)
  clear B0c0_11 B0c1_11 R0_11 R1_11 R2_11 R3_11 E_11 Kx0_11 x0_11 x1_11 Kx1_11 Kx2_11
  have Kx3_12 := Lib.hid (show BoR w12 (some ⟨gx3, 0, none⟩) x3 from (ownB_read hk12))
  clear hk12
  clear hd12
  go_wp2_with fail
  (with_reducible refine (iLeastPush_any a0_0 (some ⟨gx0, 0, none⟩) x0_1.length x0_1 _ x1 _ x2 (some ⟨gx3, 0, none⟩) x3.length x3 a4 ea _ (Kx0_12.out.awr) S0.out HL0.out Kx1_12.out HL1.out Kx2_12.out HL2.out Kx3_12.out HL3.out E_12.out).mono ?_)
  rintro e w13 ⟨rfl, hd13⟩
  have HB_13 := Lib.hid (show Below w.heap.size w w13 from HB_12.out.trans (hd13.mono HB_12.out.size))
  have B0c0_13 : w13.cell? ⟨p0, 0, none⟩ = some (.int .i64 a0_0) := cellK B0c0_12 hd13
  have B0c1_13 : w13.cell? ⟨p0, 1, none⟩ = some (.slice A0_1 x0_1.length C0_1) := cellK B0c1_12 hd13
  have R0_13 := Lib.hid (show AwR w13 A0_1 x0_1 from AwR.below R0_12.out hd13)
  have R1_13 := Lib.hid (show RowW .i64 w13 (.slice _ x1.length _) x1 from RowW.below R1_12.out hd13)
  have R2_13 := Lib.hid (show RowW .i64 w13 (.slice _ x2.length _) x2 from RowW.below R2_12.out hd13)
  have R3_13 := Lib.hid (show BoR w13 A3 x3 from BoR.below R3_12.out hd13)
  have E_13 := Lib.hid (show ErrN w13 ea from ErrN.below E_12.out hd13)
  have Kx0_13 := Lib.hid (show BlkV w13 gx0 86 (awsV x0_1) from Kx0_12.out.below hd13 Kx0_12.out.lt)
  have x0_13 : w13.cell? ⟨px, 0, none⟩ = some (.int .i64 a0_0) := cellK x0_12 hd13
  have x1_13 : w13.cell? ⟨px, 1, none⟩ = some (.slice (some ⟨gx0, 0, none⟩) x0_1.length x0_1.length) := cellK x1_12 hd13
  have Kx1_13 := Lib.hid (show Row .i64 w13 (.slice (some ⟨gx1, 0, none⟩) x1.length x1.length) x1 from Row.below Kx1_12.out hd13)
  have Kx2_13 := Lib.hid (show Row .i64 w13 (.slice (some ⟨gx2, 0, none⟩) x2.length x2.length) x2 from Row.below Kx2_12.out hd13)
  have Kx3_13 := Lib.hid (show BoR w13 (some ⟨gx3, 0, none⟩) x3 from Kx3_12.out.below hd13)
  clear B0c0_12 B0c1_12 R0_12 R1_12 R2_12 R3_12 E_12 Kx0_12 x0_12 x1_12 Kx1_12 Kx2_12 Kx3_12
  clear hd13
  go_wp2_with fail
  refine wp_region_held (S := fun w' => w'.cell? ⟨px, 0, none⟩ = some (.int .i64 a0_0) ∧ w'.cell? ⟨px, 1, none⟩ = some (.slice (some ⟨gx0, 0, none⟩) x0_1.length x0_1.length) ∧ w'.cell? ⟨p0, 0, none⟩ = some (.int .i64 a0_0) ∧ w'.cell? ⟨p0, 1, none⟩ = some (.slice A0_1 x0_1.length C0_1) ∧ Below w13.heap.size w13 w') (by kernel_rfl) ?_
  try (change wpAnyH _ _ _ _ _ _ _ _ (World.drew _))
  have hS0 := (show w13.drew.cell? ⟨px, 0, none⟩ = some (.int .i64 a0_0) ∧ w13.drew.cell? ⟨px, 1, none⟩ = some (.slice (some ⟨gx0, 0, none⟩) x0_1.length x0_1.length) ∧ w13.drew.cell? ⟨p0, 0, none⟩ = some (.int .i64 a0_0) ∧ w13.drew.cell? ⟨p0, 1, none⟩ = some (.slice A0_1 x0_1.length C0_1) ∧ Below w13.heap.size w13 w13.drew from ⟨x0_13, x1_13, B0c0_13, B0c1_13, Below.drew (Below.refl _ _)⟩)
  refine gTake 0 (v := ?_) rfl (by kernel_rfl) (by kernel_rfl) (by kernel_rfl) (fun _ _ _ h => h) (by kernel_rfl) ?_ hS0 ?_
  rotate_left
  · (intro W hW; have q0 := hW.1; have q1 := hW.2.1; have q2 := hW.2.2.1; have q3 := hW.2.2.2.1; clear hW; go_simp; try with_reducible rfl)
  refine gTake 1 (v := ?_) rfl (by kernel_rfl) (by kernel_rfl) (by kernel_rfl) (fun _ _ _ h => h) (by kernel_rfl) ?_ hS0 ?_
  rotate_left
  · (intro W hW; have q0 := hW.1; have q1 := hW.2.1; have q2 := hW.2.2.1; have q3 := hW.2.2.2.1; clear hW; go_simp; try with_reducible rfl)
  refine gOne 2 rfl (by kernel_rfl) (by kernel_rfl) (fun K hK => ?_)
  go_simp
  go_at_call 17
  (with_reducible refine (toMine_any a0_0 A0_1 C0_1 x0_1 _ (R0_13.out.below hS0.2.2.2.2) HL0.out).mono ?_)
  rintro e wq0 ⟨gy, rfl, hk, hgy, hdq0⟩
  have KY := Lib.hid hk
  clear hk hgy
  try go_simp
  have hS1 := (show wq0.cell? ⟨px, 0, none⟩ = some (.int .i64 a0_0) ∧ wq0.cell? ⟨px, 1, none⟩ = some (.slice (some ⟨gx0, 0, none⟩) x0_1.length x0_1.length) ∧ wq0.cell? ⟨p0, 0, none⟩ = some (.int .i64 a0_0) ∧ wq0.cell? ⟨p0, 1, none⟩ = some (.slice A0_1 x0_1.length C0_1) ∧ Below w13.heap.size w13 wq0 from ⟨cellK hS0.1 hdq0, cellK hS0.2.1 hdq0, cellK hS0.2.2.1 hdq0, cellK hS0.2.2.2.1 hdq0, hS0.2.2.2.2.trans (hdq0.mono hS0.2.2.2.2.size)⟩)
  refine hK _ _ hS1 ?_
  clear hK K
  refine gOne 3 rfl (by kernel_rfl) (by kernel_rfl) (fun K hK => ?_)
  go_simp
  go_at_call 22
  (with_reducible refine (eqMine_same a0_0 (some ⟨gx0, 0, none⟩) (some ⟨gy, 0, none⟩) x0_1.length x0_1.length x0_1 _ (Kx0_13.out.awr.below hS1.2.2.2.2) KY.out.awr HL0.out).mono ?_)
  rintro e wq1 ⟨rfl, hdq1⟩
  try go_simp
  have hS2 := (show wq1.cell? ⟨px, 0, none⟩ = some (.int .i64 a0_0) ∧ wq1.cell? ⟨px, 1, none⟩ = some (.slice (some ⟨gx0, 0, none⟩) x0_1.length x0_1.length) ∧ wq1.cell? ⟨p0, 0, none⟩ = some (.int .i64 a0_0) ∧ wq1.cell? ⟨p0, 1, none⟩ = some (.slice A0_1 x0_1.length C0_1) ∧ Below w13.heap.size w13 wq1 from ⟨cellK hS1.1 hdq1, cellK hS1.2.1 hdq1, cellK hS1.2.2.1 hdq1, cellK hS1.2.2.2.1 hdq1, hS1.2.2.2.2.trans (hdq1.mono hS1.2.2.2.2.size)⟩)
  refine hK _ _ hS2 ?_
  clear hK K
  refine gTake 4 (v := ?_) rfl (by kernel_rfl) (by kernel_rfl) (by kernel_rfl) (fun _ _ _ h => h) (by kernel_rfl) ?_ hS2 ?_
  rotate_left
  · (intro W hW; clear hW; go_simp; try with_reducible rfl)
  refine wpAnyH_done (by kernel_rfl) ?_ _
  go_simp
  have hd14 := hS2.2.2.2.2
  obtain ⟨w14, hL14⟩ : ∃ x, x = wq1 := ⟨_, rfl⟩
  rw [← hL14] at hd14 ⊢
  have HB_14 := Lib.hid (show Below w.heap.size w w14 from HB_13.out.trans (hd14.mono HB_13.out.size))
  have B0c0_14 : w14.cell? ⟨p0, 0, none⟩ = some (.int .i64 a0_0) := cellK B0c0_13 hd14
  have B0c1_14 : w14.cell? ⟨p0, 1, none⟩ = some (.slice A0_1 x0_1.length C0_1) := cellK B0c1_13 hd14
  have R0_14 := Lib.hid (show AwR w14 A0_1 x0_1 from AwR.below R0_13.out hd14)
  have R1_14 := Lib.hid (show RowW .i64 w14 (.slice _ x1.length _) x1 from RowW.below R1_13.out hd14)
  have R2_14 := Lib.hid (show RowW .i64 w14 (.slice _ x2.length _) x2 from RowW.below R2_13.out hd14)
  have R3_14 := Lib.hid (show BoR w14 A3 x3 from BoR.below R3_13.out hd14)
  have Kx0_14 := Lib.hid (show BlkV w14 gx0 86 (awsV x0_1) from Kx0_13.out.below hd14 Kx0_13.out.lt)
  have x0_14 : w14.cell? ⟨px, 0, none⟩ = some (.int .i64 a0_0) := cellK x0_13 hd14
  have x1_14 : w14.cell? ⟨px, 1, none⟩ = some (.slice (some ⟨gx0, 0, none⟩) x0_1.length x0_1.length) := cellK x1_13 hd14
  have Kx1_14 := Lib.hid (show Row .i64 w14 (.slice (some ⟨gx1, 0, none⟩) x1.length x1.length) x1 from Row.below Kx1_13.out hd14)
  have Kx2_14 := Lib.hid (show Row .i64 w14 (.slice (some ⟨gx2, 0, none⟩) x2.length x2.length) x2 from Row.below Kx2_13.out hd14)
  have Kx3_14 := Lib.hid (show BoR w14 (some ⟨gx3, 0, none⟩) x3 from Kx3_13.out.below hd14)
  clear B0c0_13 B0c1_13 R0_13 R1_13 R2_13 R3_13 Kx0_13 x0_13 x1_13 Kx1_13 Kx2_13 Kx3_13
  clear hd14 hL14
  clear hS0 hS1 hS2 hdq0 hdq1 KY
  go_wp2_with fail
  (with_reducible refine (toInt64S_any _ x1 _ R1_14.out HL1.out).mono ?_)
  rintro e w15 ⟨gy1, rfl, hr15, hd15⟩
  have HB_15 := Lib.hid (show Below w.heap.size w w15 from HB_14.out.trans (hd15.mono HB_14.out.size))
  have B0c0_15 : w15.cell? ⟨p0, 0, none⟩ = some (.int .i64 a0_0) := cellK B0c0_14 hd15
  have B0c1_15 : w15.cell? ⟨p0, 1, none⟩ = some (.slice A0_1 x0_1.length C0_1) := cellK B0c1_14 hd15
  have R0_15 := Lib.hid (show AwR w15 A0_1 x0_1 from AwR.below R0_14.out hd15)
  have R1_15 := Lib.hid (show RowW .i64 w15 (.slice _ x1.length _) x1 from RowW.below R1_14.out hd15)
  have R2_15 := Lib.hid (show RowW .i64 w15 (.slice _ x2.length _) x2 from RowW.below R2_14.out hd15)
  have R3_15 := Lib.hid (show BoR w15 A3 x3 from BoR.below R3_14.out hd15)
  have Kx0_15 := Lib.hid (show BlkV w15 gx0 86 (awsV x0_1) from Kx0_14.out.below hd15 Kx0_14.out.lt)
  have x0_15 : w15.cell? ⟨px, 0, none⟩ = some (.int .i64 a0_0) := cellK x0_14 hd15
  have x1_15 : w15.cell? ⟨px, 1, none⟩ = some (.slice (some ⟨gx0, 0, none⟩) x0_1.length x0_1.length) := cellK x1_14 hd15
  have Kx1_15 := Lib.hid (show Row .i64 w15 (.slice (some ⟨gx1, 0, none⟩) x1.length x1.length) x1 from Row.below Kx1_14.out hd15)
  have Kx2_15 := Lib.hid (show Row .i64 w15 (.slice (some ⟨gx2, 0, none⟩) x2.length x2.length) x2 from Row.below Kx2_14.out hd15)
  have Kx3_15 := Lib.hid (show BoR w15 (some ⟨gx3, 0, none⟩) x3 from Kx3_14.out.below hd15)
  clear B0c0_14 B0c1_14 R0_14 R1_14 R2_14 R3_14 Kx0_14 x0_14 x1_14 Kx1_14 Kx2_14 Kx3_14
  have Ky1_15 := Lib.hid (show Row .i64 w15 (.slice (some ⟨gy1, 0, none⟩) x1.length x1.length) x1 from hr15)
  clear hr15
  clear hd15
  go_wp2_with fail
  (with_reducible refine (eqInt64S_same _ _ x1 _ Kx1_15.out Ky1_15.out (by have := HL1.out; omega)).mono ?_)
  rintro e w16 ⟨rfl, n16, hn16⟩
  have hd16 : Below w15.heap.size w15 w16 := hn16 ▸ below_drewN (Below.refl _ _) n16
  have HB_16 := Lib.hid (show Below w.heap.size w w16 from HB_15.out.trans (hd16.mono HB_15.out.size))
  have B0c0_16 : w16.cell? ⟨p0, 0, none⟩ = some (.int .i64 a0_0) := cellK B0c0_15 hd16
  have B0c1_16 : w16.cell? ⟨p0, 1, none⟩ = some (.slice A0_1 x0_1.length C0_1) := cellK B0c1_15 hd16
  have R0_16 := Lib.hid (show AwR w16 A0_1 x0_1 from AwR.below R0_15.out hd16)
  have R1_16 := Lib.hid (show RowW .i64 w16 (.slice _ x1.length _) x1 from RowW.below R1_15.out hd16)
  have R2_16 := Lib.hid (show RowW .i64 w16 (.slice _ x2.length _) x2 from RowW.below R2_15.out hd16)
  have R3_16 := Lib.hid (show BoR w16 A3 x3 from BoR.below R3_15.out hd16)
  have Kx0_16 := Lib.hid (show BlkV w16 gx0 86 (awsV x0_1) from Kx0_15.out.below hd16 Kx0_15.out.lt)
  have x0_16 : w16.cell? ⟨px, 0, none⟩ = some (.int .i64 a0_0) := cellK x0_15 hd16
  have x1_16 : w16.cell? ⟨px, 1, none⟩ = some (.slice (some ⟨gx0, 0, none⟩) x0_1.length x0_1.length) := cellK x1_15 hd16
  have Kx1_16 := Lib.hid (show Row .i64 w16 (.slice (some ⟨gx1, 0, none⟩) x1.length x1.length) x1 from Row.below Kx1_15.out hd16)
  have Kx2_16 := Lib.hid (show Row .i64 w16 (.slice (some ⟨gx2, 0, none⟩) x2.length x2.length) x2 from Row.below Kx2_15.out hd16)
  have Kx3_16 := Lib.hid (show BoR w16 (some ⟨gx3, 0, none⟩) x3 from Kx3_15.out.below hd16)
  have Ky1_16 := Lib.hid (show Row .i64 w16 (.slice (some ⟨gy1, 0, none⟩) x1.length x1.length) x1 from Row.below Ky1_15.out hd16)
  clear B0c0_15 B0c1_15 R0_15 R1_15 R2_15 R3_15 Kx0_15 x0_15 x1_15 Kx1_15 Kx2_15 Kx3_15 Ky1_15
  clear hd16 hn16
  go_wp2_with fail
  (with_reducible refine (toInt64S_any _ x2 _ R2_16.out HL2.out).mono ?_)
  rintro e w17 ⟨gy2, rfl, hr17, hd17⟩
  have HB_17 := Lib.hid (show Below w.heap.size w w17 from HB_16.out.trans (hd17.mono HB_16.out.size))
  have B0c0_17 : w17.cell? ⟨p0, 0, none⟩ = some (.int .i64 a0_0) := cellK B0c0_16 hd17
  have B0c1_17 : w17.cell? ⟨p0, 1, none⟩ = some (.slice A0_1 x0_1.length C0_1) := cellK B0c1_16 hd17
  have R0_17 := Lib.hid (show AwR w17 A0_1 x0_1 from AwR.below R0_16.out hd17)
  have R1_17 := Lib.hid (show RowW .i64 w17 (.slice _ x1.length _) x1 from RowW.below R1_16.out hd17)
  have R2_17 := Lib.hid (show RowW .i64 w17 (.slice _ x2.length _) x2 from RowW.below R2_16.out hd17)
  have R3_17 := Lib.hid (show BoR w17 A3 x3 from BoR.below R3_16.out hd17)
  have Kx0_17 := Lib.hid (show BlkV w17 gx0 86 (awsV x0_1) from Kx0_16.out.below hd17 Kx0_16.out.lt)
  have x0_17 : w17.cell? ⟨px, 0, none⟩ = some (.int .i64 a0_0) := cellK x0_16 hd17
  have x1_17 : w17.cell? ⟨px, 1, none⟩ = some (.slice (some ⟨gx0, 0, none⟩) x0_1.length x0_1.length) := cellK x1_16 hd17
  have Kx1_17 := Lib.hid (show Row .i64 w17 (.slice (some ⟨gx1, 0, none⟩) x1.length x1.length) x1 from Row.below Kx1_16.out hd17)
  have Kx2_17 := Lib.hid (show Row .i64 w17 (.slice (some ⟨gx2, 0, none⟩) x2.length x2.length) x2 from Row.below Kx2_16.out hd17)
  have Kx3_17 := Lib.hid (show BoR w17 (some ⟨gx3, 0, none⟩) x3 from Kx3_16.out.below hd17)
  clear B0c0_16 B0c1_16 R0_16 R1_16 R2_16 R3_16 Kx0_16 x0_16 x1_16 Kx1_16 Kx2_16 Kx3_16
  have Ky2_17 := Lib.hid (show Row .i64 w17 (.slice (some ⟨gy2, 0, none⟩) x2.length x2.length) x2 from hr17)
  clear hr17
  clear hd17
  go_wp2_with fail
  (with_reducible refine (eqInt64S_same _ _ x2 _ Kx2_17.out Ky2_17.out (by have := HL2.out; omega)).mono ?_)
  rintro e w18 ⟨rfl, n18, hn18⟩
  have hd18 : Below w17.heap.size w17 w18 := hn18 ▸ below_drewN (Below.refl _ _) n18
  have HB_18 := Lib.hid (show Below w.heap.size w w18 from HB_17.out.trans (hd18.mono HB_17.out.size))
  have B0c0_18 : w18.cell? ⟨p0, 0, none⟩ = some (.int .i64 a0_0) := cellK B0c0_17 hd18
  have B0c1_18 : w18.cell? ⟨p0, 1, none⟩ = some (.slice A0_1 x0_1.length C0_1) := cellK B0c1_17 hd18
  have R0_18 := Lib.hid (show AwR w18 A0_1 x0_1 from AwR.below R0_17.out hd18)
  have R1_18 := Lib.hid (show RowW .i64 w18 (.slice _ x1.length _) x1 from RowW.below R1_17.out hd18)
  have R2_18 := Lib.hid (show RowW .i64 w18 (.slice _ x2.length _) x2 from RowW.below R2_17.out hd18)
  have R3_18 := Lib.hid (show BoR w18 A3 x3 from BoR.below R3_17.out hd18)
  have Kx0_18 := Lib.hid (show BlkV w18 gx0 86 (awsV x0_1) from Kx0_17.out.below hd18 Kx0_17.out.lt)
  have x0_18 : w18.cell? ⟨px, 0, none⟩ = some (.int .i64 a0_0) := cellK x0_17 hd18
  have x1_18 : w18.cell? ⟨px, 1, none⟩ = some (.slice (some ⟨gx0, 0, none⟩) x0_1.length x0_1.length) := cellK x1_17 hd18
  have Kx1_18 := Lib.hid (show Row .i64 w18 (.slice (some ⟨gx1, 0, none⟩) x1.length x1.length) x1 from Row.below Kx1_17.out hd18)
  have Kx2_18 := Lib.hid (show Row .i64 w18 (.slice (some ⟨gx2, 0, none⟩) x2.length x2.length) x2 from Row.below Kx2_17.out hd18)
  have Kx3_18 := Lib.hid (show BoR w18 (some ⟨gx3, 0, none⟩) x3 from Kx3_17.out.below hd18)
  have Ky2_18 := Lib.hid (show Row .i64 w18 (.slice (some ⟨gy2, 0, none⟩) x2.length x2.length) x2 from Row.below Ky2_17.out hd18)
  clear B0c0_17 B0c1_17 R0_17 R1_17 R2_17 R3_17 Kx0_17 x0_17 x1_17 Kx1_17 Kx2_17 Kx3_17 Ky2_17
  clear hd18 hn18
  go_wp2_with fail
  (with_reducible refine (toBoolS_own A3 C3 x3 _ R3_18.out HL3.out).mono ?_)
  rintro e w19 ⟨gy3, rfl, hk19, hd19⟩
  have HB_19 := Lib.hid (show Below w.heap.size w w19 from HB_18.out.trans (hd19.mono HB_18.out.size))
  have B0c0_19 : w19.cell? ⟨p0, 0, none⟩ = some (.int .i64 a0_0) := cellK B0c0_18 hd19
  have B0c1_19 : w19.cell? ⟨p0, 1, none⟩ = some (.slice A0_1 x0_1.length C0_1) := cellK B0c1_18 hd19
  have R0_19 := Lib.hid (show AwR w19 A0_1 x0_1 from AwR.below R0_18.out hd19)
  have R1_19 := Lib.hid (show RowW .i64 w19 (.slice _ x1.length _) x1 from RowW.below R1_18.out hd19)
  have R2_19 := Lib.hid (show RowW .i64 w19 (.slice _ x2.length _) x2 from RowW.below R2_18.out hd19)
  have R3_19 := Lib.hid (show BoR w19 A3 x3 from BoR.below R3_18.out hd19)
  have Kx0_19 := Lib.hid (show BlkV w19 gx0 86 (awsV x0_1) from Kx0_18.out.below hd19 Kx0_18.out.lt)
  have x0_19 : w19.cell? ⟨px, 0, none⟩ = some (.int .i64 a0_0) := cellK x0_18 hd19
  have x1_19 : w19.cell? ⟨px, 1, none⟩ = some (.slice (some ⟨gx0, 0, none⟩) x0_1.length x0_1.length) := cellK x1_18 hd19
  have Kx1_19 := Lib.hid (show Row .i64 w19 (.slice (some ⟨gx1, 0, none⟩) x1.length x1.length) x1 from Row.below Kx1_18.out hd19)
  have Kx2_19 := Lib.hid (show Row .i64 w19 (.slice (some ⟨gx2, 0, none⟩) x2.length x2.length) x2 from Row.below Kx2_18.out hd19)
  have Kx3_19 := Lib.hid (show BoR w19 (some ⟨gx3, 0, none⟩) x3 from Kx3_18.out.below hd19)
  clear B0c0_18 B0c1_18 R0_18 R1_18 R2_18 R3_18 Kx0_18 x0_18 x1_18 Kx1_18 Kx2_18 Kx3_18
  have Ky3_19 := Lib.hid (show BoR w19 (some ⟨gy3, 0, none⟩) x3 from (ownB_read hk19))
  clear hk19
  clear hd19
  go_wp2_with fail
  (with_reducible refine (eqBoolS_same (some ⟨gx3, 0, none⟩) (some ⟨gy3, 0, none⟩) x3.length x3.length x3 _ Kx3_19.out Ky3_19.out HL3.out).mono ?_)
  rintro e w20 ⟨rfl, hd20⟩
  have HB_20 := Lib.hid (show Below w.heap.size w w20 from HB_19.out.trans (hd20.mono HB_19.out.size))
  have B0c0_20 : w20.cell? ⟨p0, 0, none⟩ = some (.int .i64 a0_0) := cellK B0c0_19 hd20
  have B0c1_20 : w20.cell? ⟨p0, 1, none⟩ = some (.slice A0_1 x0_1.length C0_1) := cellK B0c1_19 hd20
  have R0_20 := Lib.hid (show AwR w20 A0_1 x0_1 from AwR.below R0_19.out hd20)
  have R1_20 := Lib.hid (show RowW .i64 w20 (.slice _ x1.length _) x1 from RowW.below R1_19.out hd20)
  have R2_20 := Lib.hid (show RowW .i64 w20 (.slice _ x2.length _) x2 from RowW.below R2_19.out hd20)
  have R3_20 := Lib.hid (show BoR w20 A3 x3 from BoR.below R3_19.out hd20)
  have Kx0_20 := Lib.hid (show BlkV w20 gx0 86 (awsV x0_1) from Kx0_19.out.below hd20 Kx0_19.out.lt)
  have x0_20 : w20.cell? ⟨px, 0, none⟩ = some (.int .i64 a0_0) := cellK x0_19 hd20
  have x1_20 : w20.cell? ⟨px, 1, none⟩ = some (.slice (some ⟨gx0, 0, none⟩) x0_1.length x0_1.length) := cellK x1_19 hd20
  have Kx1_20 := Lib.hid (show Row .i64 w20 (.slice (some ⟨gx1, 0, none⟩) x1.length x1.length) x1 from Row.below Kx1_19.out hd20)
  have Kx2_20 := Lib.hid (show Row .i64 w20 (.slice (some ⟨gx2, 0, none⟩) x2.length x2.length) x2 from Row.below Kx2_19.out hd20)
  have Kx3_20 := Lib.hid (show BoR w20 (some ⟨gx3, 0, none⟩) x3 from Kx3_19.out.below hd20)
  have Ky3_20 := Lib.hid (show BoR w20 (some ⟨gy3, 0, none⟩) x3 from Ky3_19.out.below hd20)
  clear B0c0_19 B0c1_19 R0_19 R1_19 R2_19 R3_19 Kx0_19 x0_19 x1_19 Kx1_19 Kx2_19 Kx3_19 Ky3_19
  clear hd20
  go_wp2
  go_ret
  exact ⟨rfl, HB_20.out⟩

set_option maxHeartbeats 1000000 in
set_option maxRecDepth 100000 in
theorem contract (H : Type) (enc : TypeId × Value → H) (W : World) (base : Nat) (args : Array Value) (ds gs : List (DataW H)) (before : List MemPlace)
    (hval : ∀ (j : Nat) t v, Tryd.f7.params[j]? = some t → args[j]? = some v → Value.okWide Tryd.prog W .any base t v)
    (hW : DataW.Whole enc Tryd.prog Tryd.f7.params.toList Rows.fnExactLeastPushSpec.vars false W args.toList ds gs before) (hL : laidMetH Tryd.prog Rows.fnExactLeastPushRow.laid W) :
    Calls Tryd.prog 7 args W fun e W' => ∃ v, e = .returned v ∧ Rows.fnExactLeastPushSpec.post enc Tryd.prog Tryd.f7 false true false false W args v W' := by
  have hW' := hW
  obtain ⟨p, q, hA0, hV, rfl, hfz, hnd⟩ := hW
  have hA : DataW.TrodAll enc Tryd.prog W 0 (fun _ => true) true Tryd.f7.params.toList args.toList ds p := hA0
  rw [Tryd.params7] at hA hval
  obtain ⟨v0, vs0, d0, ds0, p0, q0, hargs, rfl, rfl, h0, r0⟩ := trodAll_cons hA
  obtain ⟨v1, vs1, d1, ds1, p1, q1, rfl, rfl, rfl, h1, r1⟩ := trodAll_cons r0
  obtain ⟨v2, vs2, d2, ds2, p2, q2, rfl, rfl, rfl, h2, r2⟩ := trodAll_cons r1
  obtain ⟨v3, vs3, d3, ds3, p3, q3, rfl, rfl, rfl, h3, r3⟩ := trodAll_cons r2
  obtain ⟨v4, vs4, d4, ds4, p4, q4, rfl, rfl, rfl, h4, r4⟩ := trodAll_cons r3
  obtain ⟨rfl, rfl, rfl⟩ := trodAll_nil r4
  obtain rfl : args = #[v0, v1, v2, v3, v4] := by cases args; simp_all
  have hV1 := hV
  obtain ⟨gg0, tt0, cc0, ff0, dd0, pp0, rfl, -⟩ := trodVars_one hV1
  have k0 := h0
  have lt0 : ∀ x ∈ p0, x.block < W.heap.size := by obtain ⟨m, hm⟩ := k0; exact DataW.trod_lt m _ _ _ hm
  obtain ⟨l0, rfl, ll0, hf0⟩ := open_fields Tryd.underlying35 (by kernel_rfl) (by kernel_rfl) (hval 0 35 v0 rfl rfl) h0
  obtain ⟨c0_0, n0_0, y0_0, e0_0, t0_0⟩ := hf0 0 _ rfl
  obtain ⟨a0_0, q0_0, _, w0_0⟩ := DataW.trod_int Tryd.underlying2 t0_0
  obtain ⟨c0_1, n0_1, y0_1, e0_1, t0_1⟩ := hf0 1 _ rfl
  obtain ⟨A0_1, C0_1, x0_1, q0_1, l0_1, r0_1, f0_1⟩ := open_aws t0_1
  obtain rfl := List.cons.inj q0_0 |>.1
  obtain rfl := List.cons.inj q0_1 |>.1
  obtain rfl : l0 = [.int .i64 a0_0, .slice A0_1 x0_1.length C0_1] := by
    match l0, ll0, e0_0, e0_1 with
    | [x0, x1], _, z0, z1 => simp at z0 z1; simp [z0, z1]
  obtain ⟨a1, len1, cap1, rfl⟩ := okWide_slice Tryd.underlying36 (hval 1 36 v1 rfl rfl)
  have k1 := h1
  have lt1 : ∀ x ∈ p1, x.block < W.heap.size := by obtain ⟨m, hm⟩ := k1; exact DataW.trod_lt m _ _ _ hm
  obtain ⟨z1, w1⟩ : ∃ zs, IsRow .i64 W a1 len1 cap1 zs := by
    obtain ⟨fuel, hf⟩ := h1
    rcases open_ints Tryd.underlying36 Tryd.underlying2 (by kernel_rfl) hf with ⟨hcs, _⟩ | ⟨x, l, c, zs, hcs, _, hl, hm, hz, _, hcell, hwz⟩
    · simp [Value.cells] at hcs
      obtain ⟨rfl, rfl, rfl⟩ := hcs
      exact ⟨[], .inl ⟨rfl, rfl, rfl, rfl⟩⟩
    · simp [Value.cells] at hcs
      obtain ⟨rfl, rfl, rfl⟩ := hcs
      exact ⟨zs, .inr ⟨_, rfl, hl, hm, by simpa using hz, hcell, hwz⟩⟩
  obtain ⟨a2, len2, cap2, rfl⟩ := okWide_slice Tryd.underlying36 (hval 2 36 v2 rfl rfl)
  have k2 := h2
  have lt2 : ∀ x ∈ p2, x.block < W.heap.size := by obtain ⟨m, hm⟩ := k2; exact DataW.trod_lt m _ _ _ hm
  obtain ⟨z2, w2⟩ : ∃ zs, IsRow .i64 W a2 len2 cap2 zs := by
    obtain ⟨fuel, hf⟩ := h2
    rcases open_ints Tryd.underlying36 Tryd.underlying2 (by kernel_rfl) hf with ⟨hcs, _⟩ | ⟨x, l, c, zs, hcs, _, hl, hm, hz, _, hcell, hwz⟩
    · simp [Value.cells] at hcs
      obtain ⟨rfl, rfl, rfl⟩ := hcs
      exact ⟨[], .inl ⟨rfl, rfl, rfl, rfl⟩⟩
    · simp [Value.cells] at hcs
      obtain ⟨rfl, rfl, rfl⟩ := hcs
      exact ⟨zs, .inr ⟨_, rfl, hl, hm, by simpa using hz, hcell, hwz⟩⟩
  obtain ⟨a3, len3, cap3, rfl⟩ := okWide_slice Tryd.underlying37 (hval 3 37 v3 rfl rfl)
  have k3 := h3
  have lt3 : ∀ x ∈ p3, x.block < W.heap.size := by obtain ⟨m, hm⟩ := k3; exact DataW.trod_lt m _ _ _ hm
  obtain ⟨fu3, ho3⟩ := h3
  obtain ⟨A3, C3, x3, qx3, lx3, rx3, fx3⟩ := open_bools ho3
  simp only [Value.cells] at qx3
  obtain ⟨rfl, rfl, rfl⟩ : a3 = A3 ∧ len3 = x3.length ∧ cap3 = C3 := by simpa using qx3
  obtain ⟨a4, rfl, rfl, rfl, w4⟩ := open_int Tryd.underlying2 (hval 4 2 v4 rfl rfl) h4
  clear hA0
  refine (walk W a0_0 w0_0 A0_1 C0_1 x0_1 l0_1 r0_1 f0_1 a1 len1 cap1 z1 w1 a2 len2 cap2 z2 w2 a3 cap3 x3 lx3 rx3 fx3 a4 w4 hL).mono fun e W' ⟨he, bel⟩ => ?_
  subst he
  exact ⟨_, rfl, _, _, _, [], _, _, hW', trodAll_mk1 (shut_bool Tryd.underlying4 _), (trodAll_cons_mk (Below.trod laidOut (by kernel_rfl) (of_decide_eq_true (by kernel_rfl)) k0 bel lt0) (trodAll_cons_mk (Below.trod laidOut (by kernel_rfl) (of_decide_eq_true (by kernel_rfl)) k1 bel lt1) (trodAll_cons_mk (Below.trod laidOut (by kernel_rfl) (of_decide_eq_true (by kernel_rfl)) k2 bel lt2) (trodAll_cons_mk (Below.trod laidOut (by kernel_rfl) (of_decide_eq_true (by kernel_rfl)) k3 bel lt3) (trodAll_cons_mk (shut_int Tryd.underlying2 w4) trodAll_mk0))))), (Below.trodVars laidOut bel (by kernel_rfl) hV), bel.frame _, fun h => by cases h⟩

/-- The cells of a table. -/
def flatL : DataW Unit → List Value
  | .lit (.int k n) => [.int k n]
  | .agg l => l.map fun | .lit (.int k n) => .int k n | _ => .bool false
  | _ => []
def flatD : DataW Unit → Array Value
  | .agg l => (l.flatMap flatL).toArray
  | _ => #[]
noncomputable abbrev N0 : Nat := (World.settled Tryd.prog default).heap.size
noncomputable def laidWorld (os : Os) : World :=
  { World.holding Tryd.prog os ⟨#[.cells #[.string ⟨#[110, 111, 32, 112, 111, 116, 101, 110, 116, 105, 97, 108, 115, 32, 102, 105, 116]⟩] 204], #[], []⟩ with heap := ((World.holding Tryd.prog os ⟨#[.cells #[.string ⟨#[110, 111, 32, 112, 111, 116, 101, 110, 116, 105, 97, 108, 115, 32, 102, 105, 116]⟩] 204], #[], []⟩).heap.modify 0 (fun | .cells _ t frozen => .cells #[.iface 202 (.pointer (some ⟨N0 + 0, 0, none⟩))] t frozen | o => o)) }
theorem laid_met (os : Os) : laidMet Tryd.prog Rows.fnExactLeastPushRow.laid ((laidWorld os).forCall (fun _ _ => 0) ⟨#[], #[.agg #[.int .i64 0, .slice none 0 0], .slice none 0 0, .slice none 0 0, .slice none 0 0, .int .i64 0], []⟩).memory :=
  (LaidIn.of_run [0, N0 + 0] 8 (by kernel_rfl) (by kernel_rfl) (by kernel_rfl) (by kernel_rfl)).met
theorem reads (os : Os) {H : Type} (enc : TypeId × Value → H) : ∃ places, DataW.whole enc Tryd.prog ((laidWorld os).forCall (fun _ _ => 0) ⟨#[], #[.agg #[.int .i64 0, .slice none 0 0], .slice none 0 0, .slice none 0 0, .slice none 0 0, .int .i64 0], []⟩).memory Tryd.f7.params.toList Rows.fnExactLeastPushSpec.vars false (#[.agg #[.int .i64 0, .slice none 0 0], .slice none 0 0, .slice none 0 0, .slice none 0 0, .int .i64 0] : Array Value).toList 8 = some ([.agg [.lit (.int .i64 0), .nil], .nil, .nil, .nil, .lit (.int .i64 0)], [.held (enc (202, .pointer (some ⟨N0 + 0, 0, none⟩)))], places) :=
  ⟨MemPlace.row ⟨0, 0, none⟩ 1, by kernel_rfl⟩
set_option maxRecDepth 100000 in
theorem lifted (os : Os) (started : os.Started) (H : Type) (enc : TypeId × Value → H) (F : Stop.Interp) :
    ReturnsInHanded {} Tryd.checked os 7 .any ((OpenSpec.ofChange Rows.fnExactLeastPushSpec).preRow enc Tryd.prog Tryd.f7 Rows.fnExactLeastPushRow.domain false Rows.fnExactLeastPushRow.laid) (((OpenSpec.ofChange Rows.fnExactLeastPushSpec).at F).post enc Tryd.prog Tryd.f7 false true false false) := by
  obtain ⟨places, hx⟩ := reads os enc
  refine returnsInHanded_of_row (C := Tryd.checked) (s := OpenSpec.ofChange Rows.fnExactLeastPushSpec) own started (by kernel_rfl) Tryd.func7
    (witness_row_atRef (enc := enc) (C := Tryd.checked) false (laidWorld os) #[.agg #[.int .i64 0, .slice none 0 0], .slice none 0 0, .slice none 0 0, .slice none 0 0, .int .i64 0] rfl (by kernel_rfl) (by kernel_rfl) (by kernel_rfl)
      (OpenSpec.preRow_of_cond 8 hx (by kernel_rfl) (fun k hk => by cases hk) (by kernel_rfl) (laid_met os))) ?_
  intro W base args ds gs before hval hW _ _ _ hL hS _
  exact contract H enc W base args ds gs before hval hW hL
set_option maxHeartbeats 4000000 in
theorem facts : joinedFacts Tryd.pinned.checked.prog 7 Tryd.f7 (OpenSpec.ofChange Rows.fnExactLeastPushSpec).bare Rows.fnExactLeastPushRow = true := by
  unfold joinedFacts
  simp only [Bool.and_eq_true]
  repeat' apply And.intro
  all_goals first
    | (with_reducible exact fxMay)
    | (rw [fxLifts]; as_aux_lemma => kernel_rfl)
    | (rw [fxMake]; as_aux_lemma => kernel_rfl)
    | (as_aux_lemma => kernel_rfl)
theorem said : Rows.FnExactLeastPushSaid :=
  OpenClaim.holds_of_cond 7 Tryd.f7 rfl rfl rfl rfl rfl rfl rfl ⟨rfl, rfl, rfl, rfl, rfl⟩ rfl rfl rfl rfl rfl (by kernel_rfl) Tryd.func7 facts
    (of_decide_eq_true (by kernel_rfl)) (by unfold Func.isWrapper; first | (rw [if_pos (by decide +kernel)]; kernel_rfl) | (rw [if_neg (by decide +kernel)]; exact ⟨rfl, rfl⟩))
    (fun os started H enc _ F => by rw [OpenClaim.pre_eq_preRow]; exact lifted os started H enc F)
theorem plain (f : FuncId) (fn : Func) (hf : Tryd.pinned.checked.prog.funcNamed "loop.example/g01021/laws.FnExactLeastPush" = some f) (hfn : Tryd.pinned.checked.prog.funcs[f]? = some fn) :
    true = Tryd.pinned.checked.prog.looks [] ∧ ∀ (j : Nat) t, fn.params[j]? = some t → Tryd.pinned.checked.prog.wantsStandIn t = false := by
  obtain rfl : f = 7 := Option.some.inj ((show Tryd.prog.funcNamed "loop.example/g01021/laws.FnExactLeastPush" = some 7 by kernel_rfl).symm.trans hf) |>.symm
  obtain rfl : fn = Tryd.f7 := (Option.some.inj (Tryd.func7.symm.trans hfn)).symm
  refine ⟨by kernel_rfl, fun j t ht => ?_⟩
  rw [Tryd.params7] at ht
  have hm := Array.mem_of_getElem? ht
  simp only [List.mem_toArray, List.mem_cons, List.not_mem_nil, or_false] at hm
  rcases hm with rfl | rfl | rfl | rfl | rfl
  · exact (show Tryd.prog.wantsStandIn 35 = false by kernel_rfl)
  · exact (show Tryd.prog.wantsStandIn 36 = false by kernel_rfl)
  · exact (show Tryd.prog.wantsStandIn 36 = false by kernel_rfl)
  · exact (show Tryd.prog.wantsStandIn 37 = false by kernel_rfl)
  · exact (show Tryd.prog.wantsStandIn 2 = false by kernel_rfl)
theorem proved : Rows.FnExactLeastPushCardSaid :=
  Claim7.holds_tied_plain_at .later [] _ _ _ _ said (fun _ h => by cases h) (by kernel_rfl) (fun _ h => by cases h) fnExactLeastPush_row_tie rfl ⟨rfl, rfl⟩ (by kernel_rfl) rfl plain (by kernel_rfl)
#print axioms proved
end Go.Proofs.YthbofhlfggkolaaDoor.fnExactLeastPush
