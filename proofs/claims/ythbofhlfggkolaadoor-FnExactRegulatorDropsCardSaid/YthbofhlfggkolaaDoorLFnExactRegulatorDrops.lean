/-
  PROVED: for every input the function laws.FnExactRegulatorDrops returns true and leaves its arguments as they were. Conditions: the package-level variables that the row lists hold what the program text lays (the card ties them).
-/
import Derived.Test.YthbofhlfggkolaaDoorCards
import Derived.Test.YthbofhlfggkolaaDoorTie
import Derived.Test.YthbofhlfggkolaaDoorOs
import Derived.Test.YthbofhlfggkolaaDoorJo
import Derived.Test.YthbofhlfggkolaaDoorWe
import Derived.Test.YthbofhlfggkolaaDoorQl
import Derived.Test.YthbofhlfggkolaaDoorMk
import Derived.Test.YthbofhlfggkolaaDoorGg
import Derived.Test.YthbofhlfggkolaaDoorFx
import Derived.WalkKit
import Derived.ProofKit
import Derived.OpenShut
import Derived.ShutString
import Derived.ChangeOld
import Derived.Below
import Derived.Carry
import Derived.OpenVars
import Derived.ChangeVars
import Derived.Lib.SmallJoins
import Derived.ChangeArms
import Derived.Deep.DeepHandedRow
import Derived.Lib.LaidTab
import Derived.MakeChecks
import Derived.Stop.LaidErr
import Derived.Deep.DeepWitnessRowRef
import Derived.Lib.LaidIn
namespace Go.Proofs.YthbofhlfggkolaaDoor.fnExactRegulatorDrops
open Go.ChangeShapes Go.WideShapes Go.ChangeAt Go.RowKit
open Go.ChangeMaps (open_string shut_string)
open Go.Joins Go.Deep
set_option linter.unusedVariables false
set_option linter.unusedSimpArgs false

theorem own : ownKnob Tryd.prog.godebug = none := by kernel_rfl
theorem laidOut : laidOutB Tryd.prog = true := by kernel_rfl
section
variable {H : Type} {enc : TypeId × Value → H} {P : Program} {w : World} {base : Nat} {spare : Nat → Bool} {held : Bool}
theorem open_fields {r : Reach} {b0 : Nat} {t : TypeId} {fs : Array Field} {v : Value} {d : DataW H} {p : List MemPlace} (hs : P.underlying t = some (.struct fs)) (hone : oneCellFields P fs = true) (hC : P.cellsOf t = fs.size)
    (hv : Value.okWide P w r b0 t v) (h : DataW.Trod enc P w base spare held t v d p) :
    ∃ l : List Value, v = .agg ⟨l⟩ ∧ l.length = fs.size ∧ ∀ (j : Nat) (f : Field), fs[j]? = some f → ∃ (c : Value) (n : Nat) (y : DataW H × List MemPlace), l[j]? = some c ∧ DataW.trod enc P w base spare held n f.type [c] = some y := by
  obtain ⟨cs, rfl, hsz⟩ := okWide_struct hs hv
  obtain ⟨l⟩ := cs
  obtain ⟨fuel, hf⟩ := h
  obtain ⟨xs, n, _, _, _, hlen, hg⟩ := DataW.trod_struct hs hf
  have hl : l.length = fs.size := by simpa using hsz.trans hC
  refine ⟨l, rfl, hl, fun j f hj => ?_⟩
  obtain ⟨o, k⟩ := hone_of hone j f hj
  have hjf : j < fs.size := (Array.getElem?_eq_some_iff.1 hj).1
  have hjl : j < l.length := by omega
  have h1 := hg j f hj
  rw [o, k] at h1
  have e : (l.drop j).take 1 = [l[j]] := by
    rw [List.drop_eq_getElem_cons hjl]; rfl
  replace h1 : DataW.trod enc P w base spare held n f.type ((l.drop j).take 1) = xs[j]? := by simpa [Value.cells] using h1
  rw [e] at h1
  have hx : xs[j]? = some (xs[j]'(by omega)) := List.getElem?_eq_getElem (by omega)
  exact ⟨l[j], _, _, List.getElem?_eq_getElem hjl, h1.trans hx⟩
end
/-- A slice of integers that came in: nil, or a row of 'cap' cells. -/
def IsRow (k : IntKind) (w : World) (a : Option Addr) (len cap : Nat) (zs : List Int) : Prop :=
  (a = none ∧ len = 0 ∧ cap = 0 ∧ zs = []) ∨
  ∃ x, a = some x ∧ len ≤ cap ∧ cap ≤ maxLen ∧ zs.length = cap ∧ (∀ i, i < zs.length → w.cell? (x.add i) = some (.int k (zs.getD i 0))) ∧ ∀ n ∈ zs, (Lit.int k n).wf = true
theorem rowW {w : World} {a : Option Addr} {len cap : Nat} {zs : List Int} (h : IsRow .i64 w a len cap zs) : ∃ xs, xs.length = len ∧ RowW .i64 w (.slice a len cap) xs := by
  rcases h with ⟨rfl, rfl, rfl, rfl⟩ | ⟨x, rfl, hlc, hcm, hzl, hcell, hwf⟩
  · exact ⟨[], rfl, none, 0, rfl, fun j hj => absurd hj (by simp)⟩
  · have hl : (zs.take len).length = len := by rw [List.length_take]; omega
    refine ⟨zs.take len, hl, some x, cap, by rw [hl], fun j hj => ?_⟩
    rw [hl] at hj
    have h0 := hcell 0 (by omega)
    obtain ⟨b, off, sp⟩ := x
    have hsp : sp = none := by
      unfold Addr.add World.cell? at h0
      rw [if_pos rfl] at h0
      cases sp with
      | none => rfl
      | some q => cases hq : w.heap[b]? with
        | none => simp [hq] at h0
        | some o => cases o <;> simp [hq] at h0
    subst hsp
    refine ⟨b, off, rfl, ?_⟩
    have := hcell j (by omega)
    rw [List.getD_eq_getElem?_getD, List.getElem?_take, if_pos hj, ← List.getD_eq_getElem?_getD, ← this]
    unfold Addr.add
    split
    · rename_i h; subst h; rfl
    · rfl
theorem starE : "*" ++ "errors.errorString" = "*errors.errorString" := by decide
theorem rowE (u : TypeId) (h : Tryd.prog.typeName? 3 u = some "*errors.errorString") : u = 202 :=
  typeName_ptr_named (nm := "errors.errorString") (by rw [starE]; kernel_rfl) (by kernel_rfl) (by decide) u (by rw [starE]; exact h)
theorem table {W : World} (h : laidMetH Tryd.prog Rows.fnExactRegulatorDropsRow.laid W) : ∃ a b, ErrS W a b := by
  rw [Go.MakeChecks.laidMetH_plain _ _ _ (by kernel_rfl)] at h
  obtain ⟨a0, t0, hv0, _⟩ := laid_sentinel (g := 0) h (by kernel_rfl) (by kernel_rfl) Tryd.underlying79 rowE Tryd.underlying202 Tryd.underlying204 rfl rfl Tryd.underlying9 (by kernel_rfl) (by kernel_rfl)
  obtain ⟨a1, t1, hv1, _⟩ := laid_sentinel (g := 1) h.tail (by kernel_rfl) (by kernel_rfl) Tryd.underlying79 rowE Tryd.underlying202 Tryd.underlying204 rfl rfl Tryd.underlying9 (by kernel_rfl) (by kernel_rfl)
  exact ⟨a0, a1, by simpa using World.var?_cell (by kernel_rfl) hv0 0, by simpa using World.var?_cell (by kernel_rfl) hv1 0⟩
set_option maxRecDepth 100000 in
set_option maxHeartbeats 4000000 in
theorem walk (w : World) (a0_0 : Int) (w0_0 : (Lit.int .i64 a0_0).wf = true) (A0_1 : Option Addr) (C0_1 : Nat) (x0_1 : List Aw) (l0_1 : x0_1.length ≤ maxLen) (r0_1 : AwR w A0_1 x0_1) (f0_1 : ∀ a ∈ x0_1, a.fits) (a1 : Option Addr) (len1 cap1 : Nat) (z1 : List Int) (w1 : IsRow .i64 w a1 len1 cap1 z1) (a2 : Option Addr) (len2 cap2 : Nat) (z2 : List Int) (w2 : IsRow .i64 w a2 len2 cap2 z2) (A3 : Option Addr) (C3 : Nat) (x3 : List Bool) (l3 : x3.length ≤ maxLen) (r3 : BoR w A3 x3) (f3 : True) (hL : laidMetH Tryd.prog Rows.fnExactRegulatorDropsRow.laid w) :
    Calls Tryd.prog 6 #[.agg #[.int .i64 a0_0, .slice A0_1 x0_1.length C0_1], .slice a1 len1 cap1, .slice a2 len2 cap2, .slice A3 x3.length C3] w fun e w' => e = .returned (.bool true) ∧ Below w.heap.size w w' := by
  obtain ⟨ea, eb, HE0⟩ := table hL
  have HE := Lib.hid HE0
  clear hL HE0
  have HLL0 := Lib.hid l0_1
  have HR0 := Lib.hid r0_1
  have S0 := Lib.hid (fun a ha => (f0_1 a ha).1)
  clear r0_1
  obtain ⟨x1, rfl, r1⟩ := rowW w1
  have HR1 := Lib.hid r1
  clear r1 w1
  obtain ⟨x2, rfl, r2⟩ := rowW w2
  have HR2 := Lib.hid r2
  clear r2 w2
  have HLL3 := Lib.hid l3
  have HR3 := Lib.hid r3
  clear r3
  by_cases hlong1 : 1048576 < x1.length
  · have t1 : (1048576 : Int) < (x1.length : Int) := by omega
    go_enter Tryd.func6, Tryd.ntmps6
    go_wp2
    go_ret
    exact ⟨rfl, below_box _ _⟩
  have HL1 := Lib.hid (show x1.length ≤ 1048576 by omega)
  have t1_1 : ¬ (1048576 : Int) < (x1.length : Int) := by omega
  have t2_1 : decide ((1048576 : Int) < (x1.length : Int)) = false := decide_eq_false t1_1
  clear hlong1
  by_cases hlong2 : 1048576 < x2.length
  · have t1 : (1048576 : Int) < (x2.length : Int) := by omega
    go_enter Tryd.func6, Tryd.ntmps6
    go_wp2
    go_ret
    exact ⟨rfl, below_box _ _⟩
  have HL2 := Lib.hid (show x2.length ≤ 1048576 by omega)
  have t1_2 : ¬ (1048576 : Int) < (x2.length : Int) := by omega
  have t2_2 : decide ((1048576 : Int) < (x2.length : Int)) = false := decide_eq_false t1_2
  clear hlong2
  by_cases hlong3 : 1048576 < x3.length
  · have t1 : (1048576 : Int) < (x3.length : Int) := by omega
    go_enter Tryd.func6, Tryd.ntmps6
    go_wp2
    go_ret
    exact ⟨rfl, below_box _ _⟩
  have HL3 := Lib.hid (show x3.length ≤ 1048576 by omega)
  have t1_3 : ¬ (1048576 : Int) < (x3.length : Int) := by omega
  have t2_3 : decide ((1048576 : Int) < (x3.length : Int)) = false := decide_eq_false t1_3
  clear hlong3
  by_cases hs0 : szL 1048576 x0_1 < 0
  · skip
    go_enter Tryd.func6, Tryd.ntmps6
    go_wp2_with fail
    obtain ⟨w1, hL1⟩ : ∃ x, x = (w.alloc (.cells #[.int .i64 a0_0, .slice A0_1 x0_1.length C0_1] 35)) := ⟨_, rfl⟩
    have hd1 : Below w.heap.size w w1 := hL1 ▸ below_box _ _
    rw [← hL1]
    obtain ⟨p0, hp0⟩ : ∃ p, p = w.heap.size := ⟨_, rfl⟩
    rw [← hp0]
    have HB_1 := Lib.hid (show Below w.heap.size w w1 from hd1)
    have B0c0_1 : w1.cell? ⟨p0, 0, none⟩ = some (.int .i64 a0_0) := (by rw [hL1, hp0]; simp)
    have B0c1_1 : w1.cell? ⟨p0, 1, none⟩ = some (.slice A0_1 x0_1.length C0_1) := (by rw [hL1, hp0]; simp)
    have R0_1 := Lib.hid (show AwR w1 A0_1 x0_1 from HR0.out.below hd1)
    have R1_1 := Lib.hid (show RowW .i64 w1 (.slice _ x1.length _) x1 from HR1.out.below hd1)
    have R2_1 := Lib.hid (show RowW .i64 w1 (.slice _ x2.length _) x2 from HR2.out.below hd1)
    have R3_1 := Lib.hid (show BoR w1 A3 x3 from HR3.out.below hd1)
    clear hd1 hL1 hp0
    go_wp2_with fail
    (with_reducible refine (szMine_any a0_0 A0_1 C0_1 x0_1 (1048576) _ R0_1.out S0.out HLL0.out (by omega)).mono ?_)
    rintro e w2 ⟨rfl, hd2⟩
    have HB_2 := Lib.hid (show Below w.heap.size w w2 from HB_1.out.trans (hd2.mono HB_1.out.size))
    have B0c0_2 : w2.cell? ⟨p0, 0, none⟩ = some (.int .i64 a0_0) := cellK B0c0_1 hd2
    have B0c1_2 : w2.cell? ⟨p0, 1, none⟩ = some (.slice A0_1 x0_1.length C0_1) := cellK B0c1_1 hd2
    have R0_2 := Lib.hid (show AwR w2 A0_1 x0_1 from AwR.below R0_1.out hd2)
    have R1_2 := Lib.hid (show RowW .i64 w2 (.slice _ x1.length _) x1 from RowW.below R1_1.out hd2)
    have R2_2 := Lib.hid (show RowW .i64 w2 (.slice _ x2.length _) x2 from RowW.below R2_1.out hd2)
    have R3_2 := Lib.hid (show BoR w2 A3 x3 from BoR.below R3_1.out hd2)
    clear B0c0_1 B0c1_1 R0_1 R1_1 R2_1 R3_1
    clear hd2
    go_wp2
    go_ret
    exact ⟨rfl, HB_2.out⟩
  have HL0 := Lib.hid (show x0_1.length ≤ 1048576 from by have h8 := (szL_bd (left := 1048576) (by omega) (Int.not_lt.1 hs0)).1; omega)
  have HLN := Lib.hid (rdR_16 a0_0 x0_1 x1 x2 x3)
  have ca0_0 : (w.alloc (.cells #[.int .i64 a0_0, .slice A0_1 x0_1.length C0_1] 35)).cell? ⟨w.heap.size, 0, none⟩ = some (.int .i64 a0_0) := by simp
  have ca1_0 : (w.alloc (.cells #[.int .i64 a0_0, .slice A0_1 x0_1.length C0_1] 35)).cell? ⟨w.heap.size, 1, none⟩ = some (.slice A0_1 x0_1.length C0_1) := by simp
  have hzA : w.heap.size < (w.alloc (.cells #[.int .i64 a0_0, .slice A0_1 x0_1.length C0_1] 35)).heap.size := by simp
  have HB0 := Lib.hid (show Below w.heap.size w (w.alloc (.cells #[.int .i64 a0_0, .slice A0_1 x0_1.length C0_1] 35)) from below_box w _)
  go_enter Tryd.func6, Tryd.ntmps6
  go_wp2_with fail
  generalize (w.alloc (.cells #[.int .i64 a0_0, .slice A0_1 x0_1.length C0_1] 35)) = W0 at *
  go_wp2_with fail
  (with_reducible refine (szMine_any a0_0 A0_1 C0_1 x0_1 (1048576) _ (HR0.out.below HB0.out) S0.out HLL0.out (by omega)).mono ?_)
  rintro e W1 ⟨rfl, hd⟩
  have B1 := Lib.hid (show Below W0.heap.size W0 W1 from hd)
  have HB1 := Lib.hid (HB0.out.trans (B1.out.mono HB0.out.size))
  have hs_1 : W0.heap.size ≤ W1.heap.size := B1.out.size
  have ca0_1 := cellK1 ca0_0 B1.out
  have ca1_1 := cellK1 ca1_0 B1.out
  clear ca0_0 ca1_0
  try clear hd
  go_wp2_with fail
  (with_reducible refine (toMine_any a0_0 A0_1 C0_1 x0_1 _ (HR0.out.below HB1.out) HL0.out).mono ?_)
  rintro e W2 ⟨gs0, rfl, hk, hgs0, hd⟩
  have B2 := Lib.hid (show Below W1.heap.size W1 W2 from hd)
  have HB2 := Lib.hid (HB1.out.trans (B2.out.mono HB1.out.size))
  have hs_2 : W1.heap.size ≤ W2.heap.size := B2.out.size
  have ca0_2 := cellK1 ca0_1 B2.out
  have ca1_2 := cellK1 ca1_1 B2.out
  clear ca0_1 ca1_1
  have Ks0_2 := Lib.hid hk
  clear hk
  try clear hd
  go_wp2_with fail
  (with_reducible refine (toInt64S_own _ x1 _ (HR1.out.below HB2.out) HL1.out).mono ?_)
  rintro e W3 ⟨gs1, rfl, ho, hd⟩
  have B3 := Lib.hid (show Below W2.heap.size W2 W3 from hd)
  have HB3 := Lib.hid (HB2.out.trans (B3.out.mono HB2.out.size))
  have hs_3 : W2.heap.size ≤ W3.heap.size := B3.out.size
  have ca0_3 := cellK1 ca0_2 B3.out
  have ca1_3 := cellK1 ca1_2 B3.out
  clear ca0_2 ca1_2
  have Ks0_3 := Lib.hid (Ks0_2.out.below B3.out Ks0_2.out.lt)
  have Os1_3 := Lib.hid (show OwnI _ _ (.slice (some ⟨gs1, 0, none⟩) x1.length x1.length) x1 from ho)
  clear ho
  try clear hd
  go_wp2_with fail
  (with_reducible refine (toInt64S_own _ x2 _ (HR2.out.below HB3.out) HL2.out).mono ?_)
  rintro e W4 ⟨gs2, rfl, ho, hd⟩
  have B4 := Lib.hid (show Below W3.heap.size W3 W4 from hd)
  have HB4 := Lib.hid (HB3.out.trans (B4.out.mono HB3.out.size))
  have hs_4 : W3.heap.size ≤ W4.heap.size := B4.out.size
  have ca0_4 := cellK1 ca0_3 B4.out
  have ca1_4 := cellK1 ca1_3 B4.out
  clear ca0_3 ca1_3
  have Os1_4 := Lib.hid (Os1_3.out.below B4.out)
  have Ks0_4 := Lib.hid (Ks0_3.out.below B4.out Ks0_3.out.lt)
  have Os2_4 := Lib.hid (show OwnI _ _ (.slice (some ⟨gs2, 0, none⟩) x2.length x2.length) x2 from ho)
  clear ho
  try clear hd
  go_wp2_with fail
  (with_reducible refine (toBoolS_own A3 C3 x3 _ (HR3.out.below HB4.out) HL3.out).mono ?_)
  rintro e W5 ⟨gs3, rfl, ho, hd⟩
  have B5 := Lib.hid (show Below W4.heap.size W4 W5 from hd)
  have HB5 := Lib.hid (HB4.out.trans (B5.out.mono HB4.out.size))
  have hs_5 : W4.heap.size ≤ W5.heap.size := B5.out.size
  have ca0_5 := cellK1 ca0_4 B5.out
  have ca1_5 := cellK1 ca1_4 B5.out
  clear ca0_4 ca1_4
  have Os1_5 := Lib.hid (Os1_4.out.below B5.out)
  have Os2_5 := Lib.hid (Os2_4.out.below B5.out)
  have Ks0_5 := Lib.hid (Ks0_4.out.below B5.out Ks0_4.out.lt)
  have Os3_5 := Lib.hid ho
  clear ho
  try clear hd
  go_wp2_with fail
  (with_reducible refine (sRegulatorDrops_any a0_0 (some ⟨gs0, 0, none⟩) x0_1.length x0_1 _ x1 _ x2 (some ⟨gs3, 0, none⟩) x3.length x3  _ Ks0_5.out.awr S0.out HL0.out (row_ownI Os1_5.out) HL1.out (row_ownI Os2_5.out) HL2.out (ownB_read Os3_5.out) HL3.out ).mono ?_)
  rintro e W6 ⟨vw, rfl, ho, hd⟩
  have B6 := Lib.hid (show Below W5.heap.size W5 W6 from hd)
  have HB6 := Lib.hid (HB5.out.trans (B6.out.mono HB5.out.size))
  have hs_6 : W5.heap.size ≤ W6.heap.size := B6.out.size
  have ca0_6 := cellK1 ca0_5 B6.out
  have ca1_6 := cellK1 ca1_5 B6.out
  clear ca0_5 ca1_5
  have Os1_6 := Lib.hid (Os1_5.out.below B6.out)
  have Os2_6 := Lib.hid (Os2_5.out.below B6.out)
  have Os3_6 := Lib.hid (Os3_5.out.below B6.out)
  have Ks0_6 := Lib.hid (Ks0_5.out.below B6.out Ks0_5.out.lt)
  have Ow_6 := Lib.hid ho
  clear ho
  try clear hd
  go_wp2_with fail
  (with_reducible refine (toMine_any a0_0 A0_1 C0_1 x0_1 _ (HR0.out.below HB6.out) HL0.out).mono ?_)
  rintro e W7 ⟨gx0, rfl, hk, hgx0, hd⟩
  have B7 := Lib.hid (show Below W6.heap.size W6 W7 from hd)
  have HB7 := Lib.hid (HB6.out.trans (B7.out.mono HB6.out.size))
  have hs_7 : W6.heap.size ≤ W7.heap.size := B7.out.size
  have ca0_7 := cellK1 ca0_6 B7.out
  have ca1_7 := cellK1 ca1_6 B7.out
  clear ca0_6 ca1_6
  have Ow_7 := Lib.hid (Ow_6.out.below B7.out)
  have Kx0_7 := Lib.hid hk
  clear hk
  try clear hd
  have cx0_8 : (W7.alloc (.cells #[.int .i64 a0_0, .slice (some ⟨gx0, 0, none⟩) x0_1.length x0_1.length] 43)).cell? ⟨W7.heap.size, 0, none⟩ = some (.int .i64 a0_0) := by simp
  have cx1_8 : (W7.alloc (.cells #[.int .i64 a0_0, .slice (some ⟨gx0, 0, none⟩) x0_1.length x0_1.length] 43)).cell? ⟨W7.heap.size, 1, none⟩ = some (.slice (some ⟨gx0, 0, none⟩) x0_1.length x0_1.length) := by simp
  have B8 := Lib.hid (below_box W7 (.cells #[.int .i64 a0_0, .slice (some ⟨gx0, 0, none⟩) x0_1.length x0_1.length] 43))
  have HB8 := Lib.hid (HB7.out.trans (B8.out.mono HB7.out.size))
  have hs_8 : W7.heap.size < (W7.alloc (.cells #[.int .i64 a0_0, .slice (some ⟨gx0, 0, none⟩) x0_1.length x0_1.length] 43)).heap.size := by simp
  have ca0_8 := cellK1 ca0_7 B8.out
  have ca1_8 := cellK1 ca1_7 B8.out
  clear ca0_7 ca1_7
  have Ow_8 := Lib.hid (Ow_7.out.below B8.out)
  have Kx0_8 := Lib.hid (Kx0_7.out.below B8.out Kx0_7.out.lt)
  go_wp2_with fail
  generalize W7.alloc (.cells #[.int .i64 a0_0, .slice (some ⟨gx0, 0, none⟩) x0_1.length x0_1.length] 43) = W8 at *
  go_wp2_with fail
  (with_reducible refine (toInt64S_own _ x1 _ (HR1.out.below HB8.out) HL1.out).mono ?_)
  rintro e W9 ⟨gx1, rfl, ho, hd⟩
  have B9 := Lib.hid (show Below W8.heap.size W8 W9 from hd)
  have HB9 := Lib.hid (HB8.out.trans (B9.out.mono HB8.out.size))
  have hs_9 : W8.heap.size ≤ W9.heap.size := B9.out.size
  have ca0_9 := cellK1 ca0_8 B9.out
  have ca1_9 := cellK1 ca1_8 B9.out
  have cx0_9 := cellK1 cx0_8 B9.out
  have cx1_9 := cellK1 cx1_8 B9.out
  clear ca0_8 ca1_8 cx0_8 cx1_8
  have Ow_9 := Lib.hid (Ow_8.out.below B9.out)
  have Kx0_9 := Lib.hid (Kx0_8.out.below B9.out Kx0_8.out.lt)
  have Ox1_9 := Lib.hid (show OwnI _ _ (.slice (some ⟨gx1, 0, none⟩) x1.length x1.length) x1 from ho)
  clear ho
  try clear hd
  go_wp2_with fail
  (with_reducible refine (toInt64S_own _ x2 _ (HR2.out.below HB9.out) HL2.out).mono ?_)
  rintro e W10 ⟨gx2, rfl, ho, hd⟩
  have B10 := Lib.hid (show Below W9.heap.size W9 W10 from hd)
  have HB10 := Lib.hid (HB9.out.trans (B10.out.mono HB9.out.size))
  have hs_10 : W9.heap.size ≤ W10.heap.size := B10.out.size
  have ca0_10 := cellK1 ca0_9 B10.out
  have ca1_10 := cellK1 ca1_9 B10.out
  have cx0_10 := cellK1 cx0_9 B10.out
  have cx1_10 := cellK1 cx1_9 B10.out
  clear ca0_9 ca1_9 cx0_9 cx1_9
  have Ow_10 := Lib.hid (Ow_9.out.below B10.out)
  have Ox1_10 := Lib.hid (Ox1_9.out.below B10.out)
  have Kx0_10 := Lib.hid (Kx0_9.out.below B10.out Kx0_9.out.lt)
  have Ox2_10 := Lib.hid (show OwnI _ _ (.slice (some ⟨gx2, 0, none⟩) x2.length x2.length) x2 from ho)
  clear ho
  try clear hd
  go_wp2_with fail
  (with_reducible refine (toBoolS_own A3 C3 x3 _ (HR3.out.below HB10.out) HL3.out).mono ?_)
  rintro e W11 ⟨gx3, rfl, ho, hd⟩
  have B11 := Lib.hid (show Below W10.heap.size W10 W11 from hd)
  have HB11 := Lib.hid (HB10.out.trans (B11.out.mono HB10.out.size))
  have hs_11 : W10.heap.size ≤ W11.heap.size := B11.out.size
  have ca0_11 := cellK1 ca0_10 B11.out
  have ca1_11 := cellK1 ca1_10 B11.out
  have cx0_11 := cellK1 cx0_10 B11.out
  have cx1_11 := cellK1 cx1_10 B11.out
  clear ca0_10 ca1_10 cx0_10 cx1_10
  have Ow_11 := Lib.hid (Ow_10.out.below B11.out)
  have Ox1_11 := Lib.hid (Ox1_10.out.below B11.out)
  have Ox2_11 := Lib.hid (Ox2_10.out.below B11.out)
  have Kx0_11 := Lib.hid (Kx0_10.out.below B11.out Kx0_10.out.lt)
  have Ox3_11 := Lib.hid ho
  clear ho
  try clear hd
  go_wp2_with fail
  (with_reducible refine (iRegulatorDrops_any a0_0 (some ⟨gx0, 0, none⟩) x0_1.length x0_1 _ x1 _ x2 (some ⟨gx3, 0, none⟩) x3.length x3 ea eb _ Kx0_11.out.awr S0.out HL0.out (row_ownI Ox1_11.out) HL1.out (row_ownI Ox2_11.out) HL2.out (ownB_read Ox3_11.out) HL3.out (HE.out.below HB11.out)).mono ?_)
  rintro e W12 ⟨vg, rfl, ho, hd⟩
  have B12 := Lib.hid (show Below W11.heap.size W11 W12 from hd)
  have HB12 := Lib.hid (HB11.out.trans (B12.out.mono HB11.out.size))
  have hs_12 : W11.heap.size ≤ W12.heap.size := B12.out.size
  have ca0_12 := cellK1 ca0_11 B12.out
  have ca1_12 := cellK1 ca1_11 B12.out
  have cx0_12 := cellK1 cx0_11 B12.out
  have cx1_12 := cellK1 cx1_11 B12.out
  clear ca0_11 ca1_11 cx0_11 cx1_11
  have Ow_12 := Lib.hid (Ow_11.out.below B12.out)
  have Ox1_12 := Lib.hid (Ox1_11.out.below B12.out)
  have Ox2_12 := Lib.hid (Ox2_11.out.below B12.out)
  have Ox3_12 := Lib.hid (Ox3_11.out.below B12.out)
  have Kx0_12 := Lib.hid (Kx0_11.out.below B12.out Kx0_11.out.lt)
  have Og_12 := Lib.hid ho
  clear ho
  try clear hd
  go_wp2_with fail
  (with_reducible refine (eqInt64S_w vg vw (rdR a0_0 x0_1 x1 x2 x3) _ (RowW.of_ownI Og_12.out) (RowW.of_ownI Ow_12.out) (by have := HLN.out; omega)).mono ?_)
  rintro e W13 ⟨rfl, n13, hn⟩
  have B13 := Lib.hid (show Below W12.heap.size W12 W13 from hn ▸ below_drewN (Below.refl _ _) n13)
  have HB13 := Lib.hid (HB12.out.trans (B13.out.mono HB12.out.size))
  have hs_13 : W12.heap.size ≤ W13.heap.size := B13.out.size
  have ca0_13 := cellK1 ca0_12 B13.out
  have ca1_13 := cellK1 ca1_12 B13.out
  have cx0_13 := cellK1 cx0_12 B13.out
  have cx1_13 := cellK1 cx1_12 B13.out
  clear ca0_12 ca1_12 cx0_12 cx1_12
  have Ow_13 := Lib.hid (Ow_12.out.below B13.out)
  have Ox1_13 := Lib.hid (Ox1_12.out.below B13.out)
  have Ox2_13 := Lib.hid (Ox2_12.out.below B13.out)
  have Ox3_13 := Lib.hid (Ox3_12.out.below B13.out)
  have Og_13 := Lib.hid (Og_12.out.below B13.out)
  have Kx0_13 := Lib.hid (Kx0_12.out.below B13.out Kx0_12.out.lt)
  clear hn
  try clear hd
  go_wp2_with fail
  refine wp_region_held (S := fun w' => ((w'.cell? ⟨W7.heap.size, 0, none⟩ = some (.int .i64 a0_0) ∧ w'.cell? ⟨W7.heap.size, 1, none⟩ = some (.slice (some ⟨gx0, 0, none⟩) x0_1.length x0_1.length)) ∧ (w'.cell? ⟨w.heap.size, 0, none⟩ = some (.int .i64 a0_0) ∧ w'.cell? ⟨w.heap.size, 1, none⟩ = some (.slice A0_1 x0_1.length C0_1))) ∧ Below W13.heap.size W13 w') (by kernel_rfl) ?_
  try (change wpAnyH _ _ _ _ _ _ _ _ (World.drew _))
  have hS0 := (show ((W13.drew.cell? ⟨W7.heap.size, 0, none⟩ = some (.int .i64 a0_0) ∧ W13.drew.cell? ⟨W7.heap.size, 1, none⟩ = some (.slice (some ⟨gx0, 0, none⟩) x0_1.length x0_1.length)) ∧ (W13.drew.cell? ⟨w.heap.size, 0, none⟩ = some (.int .i64 a0_0) ∧ W13.drew.cell? ⟨w.heap.size, 1, none⟩ = some (.slice A0_1 x0_1.length C0_1))) ∧ Below W13.heap.size W13 W13.drew from ⟨⟨⟨cx0_13, cx1_13⟩, ca0_13, ca1_13⟩, Below.drew (Below.refl _ _)⟩)
  refine gTake 0 (v := ?_) rfl (by kernel_rfl) (by kernel_rfl) (by kernel_rfl) (fun _ _ _ h => h) (by kernel_rfl) ?_ hS0 ?_
  rotate_left
  · (intro W hW; have q0 := hW.1.1.1; have q1 := hW.1.1.2; have q2 := hW.1.2.1; have q3 := hW.1.2.2; clear hW; go_simp; try with_reducible rfl)
  refine gTake 1 (v := ?_) rfl (by kernel_rfl) (by kernel_rfl) (by kernel_rfl) (fun _ _ _ h => h) (by kernel_rfl) ?_ hS0 ?_
  rotate_left
  · (intro W hW; have q0 := hW.1.1.1; have q1 := hW.1.1.2; have q2 := hW.1.2.1; have q3 := hW.1.2.2; clear hW; go_simp; try with_reducible rfl)
  refine gOne 2 rfl (by kernel_rfl) (by kernel_rfl) (fun K hK => ?_)
  go_simp
  go_at_call 17
  (with_reducible refine (toMine_any a0_0 A0_1 C0_1 x0_1 _ (HR0.out.below (HB13.out.trans (hS0.2.mono HB13.out.size))) HL0.out).mono ?_)
  rintro e W14 ⟨gy, rfl, hk, hgy, hd⟩
  have KY := Lib.hid hk
  clear hk hgy
  try go_simp
  have hS1 := (show ((W14.cell? ⟨W7.heap.size, 0, none⟩ = some (.int .i64 a0_0) ∧ W14.cell? ⟨W7.heap.size, 1, none⟩ = some (.slice (some ⟨gx0, 0, none⟩) x0_1.length x0_1.length)) ∧ (W14.cell? ⟨w.heap.size, 0, none⟩ = some (.int .i64 a0_0) ∧ W14.cell? ⟨w.heap.size, 1, none⟩ = some (.slice A0_1 x0_1.length C0_1))) ∧ Below W13.heap.size W13 W14 from ⟨⟨⟨cellK1 hS0.1.1.1 hd, cellK1 hS0.1.1.2 hd⟩, cellK1 hS0.1.2.1 hd, cellK1 hS0.1.2.2 hd⟩, hS0.2.trans (hd.mono hS0.2.size)⟩)
  refine hK _ _ hS1 ?_
  clear hK K
  refine gOne 3 rfl (by kernel_rfl) (by kernel_rfl) (fun K hK => ?_)
  go_simp
  go_at_call 22
  (with_reducible refine (eqMine_same a0_0 (some ⟨gx0, 0, none⟩) (some ⟨gy, 0, none⟩) x0_1.length x0_1.length x0_1 _ (Kx0_13.out.awr.below hS1.2) KY.out.awr HL0.out).mono ?_)
  rintro e W15 ⟨rfl, hd2⟩
  try go_simp
  have hS2 := (show ((W15.cell? ⟨W7.heap.size, 0, none⟩ = some (.int .i64 a0_0) ∧ W15.cell? ⟨W7.heap.size, 1, none⟩ = some (.slice (some ⟨gx0, 0, none⟩) x0_1.length x0_1.length)) ∧ (W15.cell? ⟨w.heap.size, 0, none⟩ = some (.int .i64 a0_0) ∧ W15.cell? ⟨w.heap.size, 1, none⟩ = some (.slice A0_1 x0_1.length C0_1))) ∧ Below W13.heap.size W13 W15 from ⟨⟨⟨cellK1 hS1.1.1.1 hd2, cellK1 hS1.1.1.2 hd2⟩, cellK1 hS1.1.2.1 hd2, cellK1 hS1.1.2.2 hd2⟩, hS1.2.trans (hd2.mono hS1.2.size)⟩)
  refine hK _ _ hS2 ?_
  clear hK K
  refine gTake 4 (v := ?_) rfl (by kernel_rfl) (by kernel_rfl) (by kernel_rfl) (fun _ _ _ h => h) (by kernel_rfl) ?_ hS2 ?_
  rotate_left
  · (intro W hW; clear hW; go_simp; try with_reducible rfl)
  refine wpAnyH_done (by kernel_rfl) ?_ _
  go_simp
  have B15 := Lib.hid (show Below W13.heap.size W13 W15 from hS2.2)
  have HB15 := Lib.hid (HB13.out.trans (B15.out.mono HB13.out.size))
  have hs_15 : W13.heap.size ≤ W15.heap.size := B15.out.size
  have ca0_15 := cellK1 ca0_13 B15.out
  have ca1_15 := cellK1 ca1_13 B15.out
  have cx0_15 := cellK1 cx0_13 B15.out
  have cx1_15 := cellK1 cx1_13 B15.out
  clear ca0_13 ca1_13 cx0_13 cx1_13
  have Ow_15 := Lib.hid (Ow_13.out.below B15.out)
  have Ox1_15 := Lib.hid (Ox1_13.out.below B15.out)
  have Ox2_15 := Lib.hid (Ox2_13.out.below B15.out)
  have Ox3_15 := Lib.hid (Ox3_13.out.below B15.out)
  have Og_15 := Lib.hid (Og_13.out.below B15.out)
  have Kx0_15 := Lib.hid (Kx0_13.out.below B15.out Kx0_13.out.lt)
  clear hS0 hS1 hS2 hd hd2 KY
  go_wp2_with fail
  (with_reducible refine (toInt64S_own _ x1 _ (HR1.out.below HB15.out) HL1.out).mono ?_)
  rintro e W16 ⟨gb1, rfl, ho, hd⟩
  have B16 := Lib.hid (show Below W15.heap.size W15 W16 from hd)
  have HB16 := Lib.hid (HB15.out.trans (B16.out.mono HB15.out.size))
  have hs_16 : W15.heap.size ≤ W16.heap.size := B16.out.size
  have ca0_16 := cellK1 ca0_15 B16.out
  have ca1_16 := cellK1 ca1_15 B16.out
  have cx0_16 := cellK1 cx0_15 B16.out
  have cx1_16 := cellK1 cx1_15 B16.out
  clear ca0_15 ca1_15 cx0_15 cx1_15
  have Ow_16 := Lib.hid (Ow_15.out.below B16.out)
  have Ox1_16 := Lib.hid (Ox1_15.out.below B16.out)
  have Ox2_16 := Lib.hid (Ox2_15.out.below B16.out)
  have Ox3_16 := Lib.hid (Ox3_15.out.below B16.out)
  have Og_16 := Lib.hid (Og_15.out.below B16.out)
  have Kx0_16 := Lib.hid (Kx0_15.out.below B16.out Kx0_15.out.lt)
  have Ob1_16 := Lib.hid (show OwnI _ _ (.slice (some ⟨gb1, 0, none⟩) x1.length x1.length) x1 from ho)
  clear ho
  try clear hd
  go_wp2_with fail
  (with_reducible refine (eqInt64S_w (.slice (some ⟨gx1, 0, none⟩) x1.length x1.length) (.slice (some ⟨gb1, 0, none⟩) x1.length x1.length) x1 _ (RowW.of_ownI Ox1_16.out) (RowW.of_ownI Ob1_16.out) (by have := HL1.out; omega)).mono ?_)
  rintro e W17 ⟨rfl, n17, hn⟩
  have B17 := Lib.hid (show Below W16.heap.size W16 W17 from hn ▸ below_drewN (Below.refl _ _) n17)
  have HB17 := Lib.hid (HB16.out.trans (B17.out.mono HB16.out.size))
  have hs_17 : W16.heap.size ≤ W17.heap.size := B17.out.size
  have ca0_17 := cellK1 ca0_16 B17.out
  have ca1_17 := cellK1 ca1_16 B17.out
  have cx0_17 := cellK1 cx0_16 B17.out
  have cx1_17 := cellK1 cx1_16 B17.out
  clear ca0_16 ca1_16 cx0_16 cx1_16
  have Ow_17 := Lib.hid (Ow_16.out.below B17.out)
  have Ox1_17 := Lib.hid (Ox1_16.out.below B17.out)
  have Ox2_17 := Lib.hid (Ox2_16.out.below B17.out)
  have Ox3_17 := Lib.hid (Ox3_16.out.below B17.out)
  have Og_17 := Lib.hid (Og_16.out.below B17.out)
  have Ob1_17 := Lib.hid (Ob1_16.out.below B17.out)
  have Kx0_17 := Lib.hid (Kx0_16.out.below B17.out Kx0_16.out.lt)
  clear hn
  try clear hd
  go_wp2_with fail
  (with_reducible refine (toInt64S_own _ x2 _ (HR2.out.below HB17.out) HL2.out).mono ?_)
  rintro e W18 ⟨gb2, rfl, ho, hd⟩
  have B18 := Lib.hid (show Below W17.heap.size W17 W18 from hd)
  have HB18 := Lib.hid (HB17.out.trans (B18.out.mono HB17.out.size))
  have hs_18 : W17.heap.size ≤ W18.heap.size := B18.out.size
  have ca0_18 := cellK1 ca0_17 B18.out
  have ca1_18 := cellK1 ca1_17 B18.out
  have cx0_18 := cellK1 cx0_17 B18.out
  have cx1_18 := cellK1 cx1_17 B18.out
  clear ca0_17 ca1_17 cx0_17 cx1_17
  have Ow_18 := Lib.hid (Ow_17.out.below B18.out)
  have Ox1_18 := Lib.hid (Ox1_17.out.below B18.out)
  have Ox2_18 := Lib.hid (Ox2_17.out.below B18.out)
  have Ox3_18 := Lib.hid (Ox3_17.out.below B18.out)
  have Og_18 := Lib.hid (Og_17.out.below B18.out)
  have Kx0_18 := Lib.hid (Kx0_17.out.below B18.out Kx0_17.out.lt)
  have Ob2_18 := Lib.hid (show OwnI _ _ (.slice (some ⟨gb2, 0, none⟩) x2.length x2.length) x2 from ho)
  clear ho
  try clear hd
  go_wp2_with fail
  (with_reducible refine (eqInt64S_w (.slice (some ⟨gx2, 0, none⟩) x2.length x2.length) (.slice (some ⟨gb2, 0, none⟩) x2.length x2.length) x2 _ (RowW.of_ownI Ox2_18.out) (RowW.of_ownI Ob2_18.out) (by have := HL2.out; omega)).mono ?_)
  rintro e W19 ⟨rfl, n19, hn⟩
  have B19 := Lib.hid (show Below W18.heap.size W18 W19 from hn ▸ below_drewN (Below.refl _ _) n19)
  have HB19 := Lib.hid (HB18.out.trans (B19.out.mono HB18.out.size))
  have hs_19 : W18.heap.size ≤ W19.heap.size := B19.out.size
  have ca0_19 := cellK1 ca0_18 B19.out
  have ca1_19 := cellK1 ca1_18 B19.out
  have cx0_19 := cellK1 cx0_18 B19.out
  have cx1_19 := cellK1 cx1_18 B19.out
  clear ca0_18 ca1_18 cx0_18 cx1_18
  have Ow_19 := Lib.hid (Ow_18.out.below B19.out)
  have Ox1_19 := Lib.hid (Ox1_18.out.below B19.out)
  have Ox2_19 := Lib.hid (Ox2_18.out.below B19.out)
  have Ox3_19 := Lib.hid (Ox3_18.out.below B19.out)
  have Og_19 := Lib.hid (Og_18.out.below B19.out)
  have Ob2_19 := Lib.hid (Ob2_18.out.below B19.out)
  have Kx0_19 := Lib.hid (Kx0_18.out.below B19.out Kx0_18.out.lt)
  clear hn
  try clear hd
  go_wp2_with fail
  (with_reducible refine (toBoolS_own A3 C3 x3 _ (HR3.out.below HB19.out) HL3.out).mono ?_)
  rintro e W20 ⟨gb3, rfl, ho, hd⟩
  have B20 := Lib.hid (show Below W19.heap.size W19 W20 from hd)
  have HB20 := Lib.hid (HB19.out.trans (B20.out.mono HB19.out.size))
  have hs_20 : W19.heap.size ≤ W20.heap.size := B20.out.size
  have ca0_20 := cellK1 ca0_19 B20.out
  have ca1_20 := cellK1 ca1_19 B20.out
  have cx0_20 := cellK1 cx0_19 B20.out
  have cx1_20 := cellK1 cx1_19 B20.out
  clear ca0_19 ca1_19 cx0_19 cx1_19
  have Ow_20 := Lib.hid (Ow_19.out.below B20.out)
  have Ox1_20 := Lib.hid (Ox1_19.out.below B20.out)
  have Ox2_20 := Lib.hid (Ox2_19.out.below B20.out)
  have Ox3_20 := Lib.hid (Ox3_19.out.below B20.out)
  have Og_20 := Lib.hid (Og_19.out.below B20.out)
  have Kx0_20 := Lib.hid (Kx0_19.out.below B20.out Kx0_19.out.lt)
  have Ob3_20 := Lib.hid ho
  clear ho
  try clear hd
  go_wp2_with fail
  (with_reducible refine (eqBoolS_same (some ⟨gx3, 0, none⟩) (some ⟨gb3, 0, none⟩) x3.length x3.length x3 _ (ownB_read Ox3_20.out) (ownB_read Ob3_20.out) HL3.out).mono ?_)
  rintro e W21 ⟨rfl, hd⟩
  have B21 := Lib.hid (show Below W20.heap.size W20 W21 from hd)
  have HB21 := Lib.hid (HB20.out.trans (B21.out.mono HB20.out.size))
  have hs_21 : W20.heap.size ≤ W21.heap.size := B21.out.size
  have ca0_21 := cellK1 ca0_20 B21.out
  have ca1_21 := cellK1 ca1_20 B21.out
  have cx0_21 := cellK1 cx0_20 B21.out
  have cx1_21 := cellK1 cx1_20 B21.out
  clear ca0_20 ca1_20 cx0_20 cx1_20
  have Ow_21 := Lib.hid (Ow_20.out.below B21.out)
  have Ox1_21 := Lib.hid (Ox1_20.out.below B21.out)
  have Ox2_21 := Lib.hid (Ox2_20.out.below B21.out)
  have Ox3_21 := Lib.hid (Ox3_20.out.below B21.out)
  have Og_21 := Lib.hid (Og_20.out.below B21.out)
  have Ob3_21 := Lib.hid (Ob3_20.out.below B21.out)
  have Kx0_21 := Lib.hid (Kx0_20.out.below B21.out Kx0_20.out.lt)
  try clear hd
  go_wp2_with fail
  have hml0 : x0_1.length ≤ 1048576 := HL0.out
  (with_reducible refine (markMine_any a0_0 gx0 x0_1.length 1 (awsV x0_1) _ Kx0_21.out (awsV_len x0_1) HL0.out (by omega)).mono ?_)
  rintro e W22 ⟨rfl, hg⟩
  have G22 := Lib.hid hg
  clear hg
  have hs_22 : W21.heap.size ≤ W22.heap.size := G22.out.size
  have HB22 := Lib.hid (Below.grown HB21.out G22.out HB21.out.size (fun k hk => by injection hk with hk; omega))
  have hgl0 := blks_lt Kx0_7.out
  have ca0_22 := G22.out.cell ca0_21 (by intro h; injection h with h; simp only at h; omega)
  have ca1_22 := G22.out.cell ca1_21 (by intro h; injection h with h; simp only at h; omega)
  have cx0_22 := G22.out.cell cx0_21 (by intro h; injection h with h; simp only at h; omega)
  have cx1_22 := G22.out.cell cx1_21 (by intro h; injection h with h; simp only at h; omega)
  clear ca0_21 ca1_21 cx0_21 cx1_21
  have Ow_22 := Lib.hid (own_far Ow_21.out (fun k hk => by have := Ow_6.out.lt k hk; omega) G22.out)
  have Ox1_22 := Lib.hid (own_far Ox1_21.out (fun k hk => by have := Ox1_9.out.lt k hk; omega) G22.out)
  have Ox2_22 := Lib.hid (own_far Ox2_21.out (fun k hk => by have := Ox2_10.out.lt k hk; omega) G22.out)
  have Ox3_22 := Lib.hid (ownB_far Ox3_21.out (fun k hk => by have := Ox3_11.out.lt k hk; omega) G22.out)
  have Og_22 := Lib.hid (own_far Og_21.out (fun k hk => by have := Og_12.out.lt k hk; omega) G22.out)
  go_wp2_with fail
  have hml1 : x1.length ≤ 1048576 := HL1.out
  (with_reducible refine (markInt64SB_any W8.heap.size (.slice (some ⟨gx1, 0, none⟩) x1.length x1.length) x1 (1 + 7 * (x0_1.length : Int)) _ Ox1_22.out HL1.out (by omega)).mono ?_)
  rintro e W23 ⟨rfl, ho, hg⟩
  have G23 := Lib.hid hg
  have hltx1 := (Ox1_9.out.lt gx1 rfl)
  clear ho hg
  have hs_23 : W22.heap.size ≤ W23.heap.size := G23.out.size
  have HB23 := Lib.hid (Below.grown HB22.out G23.out HB22.out.size (fun k hk => by have := (Ox1_22.out.lt k hk).1; omega))
  have ca0_23 := G23.out.cell ca0_22 (by intro h; have := (Ox1_22.out.lt _ h.symm).1; simp only at this; omega)
  have ca1_23 := G23.out.cell ca1_22 (by intro h; have := (Ox1_22.out.lt _ h.symm).1; simp only at this; omega)
  have cx0_23 := G23.out.cell cx0_22 (by intro h; have := (Ox1_22.out.lt _ h.symm).1; simp only at this; omega)
  have cx1_23 := G23.out.cell cx1_22 (by intro h; have := (Ox1_22.out.lt _ h.symm).1; simp only at this; omega)
  clear ca0_22 ca1_22 cx0_22 cx1_22
  have Ow_23 := Lib.hid (own_far Ow_22.out (fun k hk => by have := Ow_6.out.lt k hk; omega) (show W22.grownBy W23 (some gx1) from G23.out))
  have Ox2_23 := Lib.hid (own_far Ox2_22.out (fun k hk => by have := Ox2_10.out.lt k hk; omega) (show W22.grownBy W23 (some gx1) from G23.out))
  have Ox3_23 := Lib.hid (ownB_far Ox3_22.out (fun k hk => by have := Ox3_11.out.lt k hk; omega) (show W22.grownBy W23 (some gx1) from G23.out))
  have Og_23 := Lib.hid (own_far Og_22.out (fun k hk => by have := Og_12.out.lt k hk; omega) (show W22.grownBy W23 (some gx1) from G23.out))
  go_wp2_with fail
  have hml2 : x2.length ≤ 1048576 := HL2.out
  (with_reducible refine (markInt64SB_any W9.heap.size (.slice (some ⟨gx2, 0, none⟩) x2.length x2.length) x2 (1 + 7 * (x0_1.length : Int) + (x1.length : Int)) _ Ox2_23.out HL2.out (by omega)).mono ?_)
  rintro e W24 ⟨rfl, ho, hg⟩
  have G24 := Lib.hid hg
  have hltx2 := (Ox2_10.out.lt gx2 rfl)
  clear ho hg
  have hs_24 : W23.heap.size ≤ W24.heap.size := G24.out.size
  have HB24 := Lib.hid (Below.grown HB23.out G24.out HB23.out.size (fun k hk => by have := (Ox2_23.out.lt k hk).1; omega))
  have ca0_24 := G24.out.cell ca0_23 (by intro h; have := (Ox2_23.out.lt _ h.symm).1; simp only at this; omega)
  have ca1_24 := G24.out.cell ca1_23 (by intro h; have := (Ox2_23.out.lt _ h.symm).1; simp only at this; omega)
  have cx0_24 := G24.out.cell cx0_23 (by intro h; have := (Ox2_23.out.lt _ h.symm).1; simp only at this; omega)
  have cx1_24 := G24.out.cell cx1_23 (by intro h; have := (Ox2_23.out.lt _ h.symm).1; simp only at this; omega)
  clear ca0_23 ca1_23 cx0_23 cx1_23
  have Ow_24 := Lib.hid (own_far Ow_23.out (fun k hk => by have := Ow_6.out.lt k hk; omega) (show W23.grownBy W24 (some gx2) from G24.out))
  have Ox3_24 := Lib.hid (ownB_far Ox3_23.out (fun k hk => by have := Ox3_11.out.lt k hk; omega) (show W23.grownBy W24 (some gx2) from G24.out))
  have Og_24 := Lib.hid (own_far Og_23.out (fun k hk => by have := Og_12.out.lt k hk; omega) (show W23.grownBy W24 (some gx2) from G24.out))
  go_wp2_with fail
  have hml3 : x3.length ≤ 1048576 := HL3.out
  (with_reducible refine (markBoolS_any W10.heap.size (.slice (some ⟨gx3, 0, none⟩) x3.length x3.length) x3 (1 + 7 * (x0_1.length : Int) + (x1.length : Int) + (x2.length : Int)) _ Ox3_24.out HL3.out (by omega)).mono ?_)
  rintro e W25 ⟨rfl, ho, hg⟩
  have G25 := Lib.hid hg
  have hltx3 := (Ox3_11.out.lt gx3 rfl)
  clear ho hg
  have hs_25 : W24.heap.size ≤ W25.heap.size := G25.out.size
  have HB25 := Lib.hid (Below.grown HB24.out G25.out HB24.out.size (fun k hk => by have := (Ox3_24.out.lt k hk).1; omega))
  have ca0_25 := G25.out.cell ca0_24 (by intro h; have := (Ox3_24.out.lt _ h.symm).1; simp only at this; omega)
  have ca1_25 := G25.out.cell ca1_24 (by intro h; have := (Ox3_24.out.lt _ h.symm).1; simp only at this; omega)
  have cx0_25 := G25.out.cell cx0_24 (by intro h; have := (Ox3_24.out.lt _ h.symm).1; simp only at this; omega)
  have cx1_25 := G25.out.cell cx1_24 (by intro h; have := (Ox3_24.out.lt _ h.symm).1; simp only at this; omega)
  clear ca0_24 ca1_24 cx0_24 cx1_24
  have Ow_25 := Lib.hid (own_far Ow_24.out (fun k hk => by have := Ow_6.out.lt k hk; omega) (show W24.grownBy W25 (some gx3) from G25.out))
  have Og_25 := Lib.hid (own_far Og_24.out (fun k hk => by have := Og_12.out.lt k hk; omega) (show W24.grownBy W25 (some gx3) from G25.out))
  have hmk0 : ¬ (1 + 7 * (x0_1.length : Int) + (x1.length : Int) + (x2.length : Int) + (x3.length : Int) < 0) := by omega
  go_wp2_with fail
  (with_reducible refine (eqInt64S_w vg vw (rdR a0_0 x0_1 x1 x2 x3) _ (RowW.of_ownI Og_25.out) (RowW.of_ownI Ow_25.out) (by have := HLN.out; omega)).mono ?_)
  rintro e W26 ⟨rfl, n26, hn⟩
  have B26 := Lib.hid (show Below W25.heap.size W25 W26 from hn ▸ below_drewN (Below.refl _ _) n26)
  have HB26 := Lib.hid (HB25.out.trans (B26.out.mono HB25.out.size))
  have hs_26 : W25.heap.size ≤ W26.heap.size := B26.out.size
  have ca0_26 := cellK1 ca0_25 B26.out
  have ca1_26 := cellK1 ca1_25 B26.out
  have cx0_26 := cellK1 cx0_25 B26.out
  have cx1_26 := cellK1 cx1_25 B26.out
  clear ca0_25 ca1_25 cx0_25 cx1_25
  have Ow_26 := Lib.hid (Ow_25.out.below B26.out)
  have Og_26 := Lib.hid (Og_25.out.below B26.out)
  clear hn
  try clear hd
  go_wp2_with fail
  (with_reducible refine (markInt64S_any W11.heap.size vg (rdR a0_0 x0_1 x1 x2 x3) 1 _ Og_26.out (by first | omega | (have := HLN.out; omega)) (by omega)).mono ?_)
  rintro e W27 ⟨rfl, ho, hg⟩
  have G27 := Lib.hid hg
  have Og_27 := Lib.hid ho
  clear ho hg
  have hs_27 : W26.heap.size ≤ W27.heap.size := G27.out.size
  have HB27 := Lib.hid (Below.grown HB26.out G27.out HB26.out.size (fun k hk => by have := (Og_26.out.lt k hk).1; omega))
  have ca0_27 := G27.out.cell ca0_26 (by intro h; have := (Og_26.out.lt _ h.symm).1; simp only at this; omega)
  have ca1_27 := G27.out.cell ca1_26 (by intro h; have := (Og_26.out.lt _ h.symm).1; simp only at this; omega)
  have cx0_27 := G27.out.cell cx0_26 (by intro h; have := (Og_26.out.lt _ h.symm).1; simp only at this; omega)
  have cx1_27 := G27.out.cell cx1_26 (by intro h; have := (Og_26.out.lt _ h.symm).1; simp only at this; omega)
  clear ca0_26 ca1_26 cx0_26 cx1_26
  have Ow_27 := Lib.hid (OwnI.apart Ow_26.out (fun k hk => by have := (Ow_6.out.lt k hk).2; omega) Og_26.out G27.out)
  go_wp2_with fail
  (with_reducible refine (heldInt64S_any W11.heap.size vg (rdR a0_0 x0_1 x1 x2 x3).length 1 _ Og_27.out (by have := HLN.out; omega) (by omega)).mono ?_)
  rintro e w' ⟨rfl, rfl⟩
  have hm0 : ¬ (1 + ((rdR a0_0 x0_1 x1 x2 x3).length : Int) < 0) := by omega
  go_wp2_with fail
  (with_reducible refine (toMine_any a0_0 A0_1 C0_1 x0_1 _ (HR0.out.below HB27.out) HL0.out).mono ?_)
  rintro e W28 ⟨gh0, rfl, hk, hgh0, hd⟩
  have B28 := Lib.hid (show Below W27.heap.size W27 W28 from hd)
  have HB28 := Lib.hid (HB27.out.trans (B28.out.mono HB27.out.size))
  have hs_28 : W27.heap.size ≤ W28.heap.size := B28.out.size
  have ca0_28 := cellK1 ca0_27 B28.out
  have ca1_28 := cellK1 ca1_27 B28.out
  have cx0_28 := cellK1 cx0_27 B28.out
  have cx1_28 := cellK1 cx1_27 B28.out
  clear ca0_27 ca1_27 cx0_27 cx1_27
  have Ow_28 := Lib.hid (Ow_27.out.below B28.out)
  have Og_28 := Lib.hid (Og_27.out.below B28.out)
  have Kh0_28 := Lib.hid hk
  clear hk
  try clear hd
  go_wp2_with fail
  (with_reducible refine (toInt64S_own _ x1 _ (HR1.out.below HB28.out) HL1.out).mono ?_)
  rintro e W29 ⟨gh1, rfl, ho, hd⟩
  have B29 := Lib.hid (show Below W28.heap.size W28 W29 from hd)
  have HB29 := Lib.hid (HB28.out.trans (B29.out.mono HB28.out.size))
  have hs_29 : W28.heap.size ≤ W29.heap.size := B29.out.size
  have ca0_29 := cellK1 ca0_28 B29.out
  have ca1_29 := cellK1 ca1_28 B29.out
  have cx0_29 := cellK1 cx0_28 B29.out
  have cx1_29 := cellK1 cx1_28 B29.out
  clear ca0_28 ca1_28 cx0_28 cx1_28
  have Ow_29 := Lib.hid (Ow_28.out.below B29.out)
  have Og_29 := Lib.hid (Og_28.out.below B29.out)
  have Kh0_29 := Lib.hid (Kh0_28.out.below B29.out Kh0_28.out.lt)
  have Oh1_29 := Lib.hid (show OwnI _ _ (.slice (some ⟨gh1, 0, none⟩) x1.length x1.length) x1 from ho)
  clear ho
  try clear hd
  go_wp2_with fail
  (with_reducible refine (toInt64S_own _ x2 _ (HR2.out.below HB29.out) HL2.out).mono ?_)
  rintro e W30 ⟨gh2, rfl, ho, hd⟩
  have B30 := Lib.hid (show Below W29.heap.size W29 W30 from hd)
  have HB30 := Lib.hid (HB29.out.trans (B30.out.mono HB29.out.size))
  have hs_30 : W29.heap.size ≤ W30.heap.size := B30.out.size
  have ca0_30 := cellK1 ca0_29 B30.out
  have ca1_30 := cellK1 ca1_29 B30.out
  have cx0_30 := cellK1 cx0_29 B30.out
  have cx1_30 := cellK1 cx1_29 B30.out
  clear ca0_29 ca1_29 cx0_29 cx1_29
  have Ow_30 := Lib.hid (Ow_29.out.below B30.out)
  have Og_30 := Lib.hid (Og_29.out.below B30.out)
  have Oh1_30 := Lib.hid (Oh1_29.out.below B30.out)
  have Kh0_30 := Lib.hid (Kh0_29.out.below B30.out Kh0_29.out.lt)
  have Oh2_30 := Lib.hid (show OwnI _ _ (.slice (some ⟨gh2, 0, none⟩) x2.length x2.length) x2 from ho)
  clear ho
  try clear hd
  go_wp2_with fail
  (with_reducible refine (toBoolS_own A3 C3 x3 _ (HR3.out.below HB30.out) HL3.out).mono ?_)
  rintro e W31 ⟨gh3, rfl, ho, hd⟩
  have B31 := Lib.hid (show Below W30.heap.size W30 W31 from hd)
  have HB31 := Lib.hid (HB30.out.trans (B31.out.mono HB30.out.size))
  have hs_31 : W30.heap.size ≤ W31.heap.size := B31.out.size
  have ca0_31 := cellK1 ca0_30 B31.out
  have ca1_31 := cellK1 ca1_30 B31.out
  have cx0_31 := cellK1 cx0_30 B31.out
  have cx1_31 := cellK1 cx1_30 B31.out
  clear ca0_30 ca1_30 cx0_30 cx1_30
  have Ow_31 := Lib.hid (Ow_30.out.below B31.out)
  have Og_31 := Lib.hid (Og_30.out.below B31.out)
  have Oh1_31 := Lib.hid (Oh1_30.out.below B31.out)
  have Oh2_31 := Lib.hid (Oh2_30.out.below B31.out)
  have Kh0_31 := Lib.hid (Kh0_30.out.below B31.out Kh0_30.out.lt)
  have Oh3_31 := Lib.hid ho
  clear ho
  try clear hd
  go_wp2_with fail
  (with_reducible refine (iRegulatorDrops_any a0_0 (some ⟨gh0, 0, none⟩) x0_1.length x0_1 _ x1 _ x2 (some ⟨gh3, 0, none⟩) x3.length x3 ea eb _ Kh0_31.out.awr S0.out HL0.out (row_ownI Oh1_31.out) HL1.out (row_ownI Oh2_31.out) HL2.out (ownB_read Oh3_31.out) HL3.out (HE.out.below HB31.out)).mono ?_)
  rintro e W32 ⟨vh, rfl, ho, hd⟩
  have B32 := Lib.hid (show Below W31.heap.size W31 W32 from hd)
  have HB32 := Lib.hid (HB31.out.trans (B32.out.mono HB31.out.size))
  have hs_32 : W31.heap.size ≤ W32.heap.size := B32.out.size
  have ca0_32 := cellK1 ca0_31 B32.out
  have ca1_32 := cellK1 ca1_31 B32.out
  have cx0_32 := cellK1 cx0_31 B32.out
  have cx1_32 := cellK1 cx1_31 B32.out
  clear ca0_31 ca1_31 cx0_31 cx1_31
  have Ow_32 := Lib.hid (Ow_31.out.below B32.out)
  have Og_32 := Lib.hid (Og_31.out.below B32.out)
  have Oh1_32 := Lib.hid (Oh1_31.out.below B32.out)
  have Oh2_32 := Lib.hid (Oh2_31.out.below B32.out)
  have Oh3_32 := Lib.hid (Oh3_31.out.below B32.out)
  have Kh0_32 := Lib.hid (Kh0_31.out.below B32.out Kh0_31.out.lt)
  have Oh_32 := Lib.hid ho
  clear ho
  try clear hd
  go_wp2_with fail
  (with_reducible refine (eqInt64S_w vh vw (rdR a0_0 x0_1 x1 x2 x3) _ (RowW.of_ownI Oh_32.out) (RowW.of_ownI Ow_32.out) (by have := HLN.out; omega)).mono ?_)
  rintro e W33 ⟨rfl, n33, hn⟩
  have B33 := Lib.hid (show Below W32.heap.size W32 W33 from hn ▸ below_drewN (Below.refl _ _) n33)
  have HB33 := Lib.hid (HB32.out.trans (B33.out.mono HB32.out.size))
  have hs_33 : W32.heap.size ≤ W33.heap.size := B33.out.size
  have ca0_33 := cellK1 ca0_32 B33.out
  have ca1_33 := cellK1 ca1_32 B33.out
  have cx0_33 := cellK1 cx0_32 B33.out
  have cx1_33 := cellK1 cx1_32 B33.out
  clear ca0_32 ca1_32 cx0_32 cx1_32
  have Ow_33 := Lib.hid (Ow_32.out.below B33.out)
  have Og_33 := Lib.hid (Og_32.out.below B33.out)
  have Oh1_33 := Lib.hid (Oh1_32.out.below B33.out)
  have Oh2_33 := Lib.hid (Oh2_32.out.below B33.out)
  have Oh3_33 := Lib.hid (Oh3_32.out.below B33.out)
  have Oh_33 := Lib.hid (Oh_32.out.below B33.out)
  have Kh0_33 := Lib.hid (Kh0_32.out.below B33.out Kh0_32.out.lt)
  clear hn
  try clear hd
  go_wp2_with fail
  (with_reducible refine (heldInt64S_any W11.heap.size vg (rdR a0_0 x0_1 x1 x2 x3).length 1 _ Og_33.out (by have := HLN.out; omega) (by omega)).mono ?_)
  rintro e w' ⟨rfl, rfl⟩
  go_wp2
  go_ret
  exact ⟨rfl, HB33.out⟩

set_option maxHeartbeats 1000000 in
set_option maxRecDepth 100000 in
theorem contract (H : Type) (enc : TypeId × Value → H) (W : World) (base : Nat) (args : Array Value) (ds gs : List (DataW H)) (before : List MemPlace)
    (hval : ∀ (j : Nat) t v, Tryd.f6.params[j]? = some t → args[j]? = some v → Value.okWide Tryd.prog W .any base t v)
    (hW : DataW.Whole enc Tryd.prog Tryd.f6.params.toList Rows.fnExactRegulatorDropsSpec.vars false W args.toList ds gs before) (hL : laidMetH Tryd.prog Rows.fnExactRegulatorDropsRow.laid W) :
    Calls Tryd.prog 6 args W fun e W' => ∃ v, e = .returned v ∧ Rows.fnExactRegulatorDropsSpec.post enc Tryd.prog Tryd.f6 false true false false W args v W' := by
  have hW' := hW
  obtain ⟨p, q, hA0, hV, rfl, hfz, hnd⟩ := hW
  have hA : DataW.TrodAll enc Tryd.prog W 0 (fun _ => true) true Tryd.f6.params.toList args.toList ds p := hA0
  rw [Tryd.params6] at hA hval
  obtain ⟨v0, vs0, d0, ds0, p0, q0, hargs, rfl, rfl, h0, r0⟩ := trodAll_cons hA
  obtain ⟨v1, vs1, d1, ds1, p1, q1, rfl, rfl, rfl, h1, r1⟩ := trodAll_cons r0
  obtain ⟨v2, vs2, d2, ds2, p2, q2, rfl, rfl, rfl, h2, r2⟩ := trodAll_cons r1
  obtain ⟨v3, vs3, d3, ds3, p3, q3, rfl, rfl, rfl, h3, r3⟩ := trodAll_cons r2
  obtain ⟨rfl, rfl, rfl⟩ := trodAll_nil r3
  obtain rfl : args = #[v0, v1, v2, v3] := by cases args; simp_all
  have hV1 := hV
  obtain ⟨gg0, tt0, cc0, ff0, dd0, pp0, gg1, tt1, cc1, ff1, dd1, pp1, rfl, -⟩ := trodVars_two hV1
  have k0 := h0
  have lt0 : ∀ x ∈ p0, x.block < W.heap.size := by obtain ⟨m, hm⟩ := k0; exact DataW.trod_lt m _ _ _ hm
  obtain ⟨l0, rfl, ll0, hf0⟩ := open_fields Tryd.underlying35 (by kernel_rfl) (by kernel_rfl) (hval 0 35 v0 rfl rfl) h0
  obtain ⟨c0_0, n0_0, y0_0, e0_0, t0_0⟩ := hf0 0 _ rfl
  obtain ⟨a0_0, q0_0, _, w0_0⟩ := DataW.trod_int Tryd.underlying2 t0_0
  obtain ⟨c0_1, n0_1, y0_1, e0_1, t0_1⟩ := hf0 1 _ rfl
  obtain ⟨A0_1, C0_1, x0_1, q0_1, l0_1, r0_1, f0_1⟩ := open_aws t0_1
  obtain rfl := List.cons.inj q0_0 |>.1
  obtain rfl := List.cons.inj q0_1 |>.1
  obtain rfl : l0 = [.int .i64 a0_0, .slice A0_1 x0_1.length C0_1] := by
    match l0, ll0, e0_0, e0_1 with
    | [x0, x1], _, z0, z1 => simp at z0 z1; simp [z0, z1]
  obtain ⟨a1, len1, cap1, rfl⟩ := okWide_slice Tryd.underlying36 (hval 1 36 v1 rfl rfl)
  have k1 := h1
  have lt1 : ∀ x ∈ p1, x.block < W.heap.size := by obtain ⟨m, hm⟩ := k1; exact DataW.trod_lt m _ _ _ hm
  obtain ⟨z1, w1⟩ : ∃ zs, IsRow .i64 W a1 len1 cap1 zs := by
    obtain ⟨fuel, hf⟩ := h1
    rcases open_ints Tryd.underlying36 Tryd.underlying2 (by kernel_rfl) hf with ⟨hcs, _⟩ | ⟨x, l, c, zs, hcs, _, hl, hm, hz, _, hcell, hwz⟩
    · simp [Value.cells] at hcs
      obtain ⟨rfl, rfl, rfl⟩ := hcs
      exact ⟨[], .inl ⟨rfl, rfl, rfl, rfl⟩⟩
    · simp [Value.cells] at hcs
      obtain ⟨rfl, rfl, rfl⟩ := hcs
      exact ⟨zs, .inr ⟨_, rfl, hl, hm, by simpa using hz, hcell, hwz⟩⟩
  obtain ⟨a2, len2, cap2, rfl⟩ := okWide_slice Tryd.underlying36 (hval 2 36 v2 rfl rfl)
  have k2 := h2
  have lt2 : ∀ x ∈ p2, x.block < W.heap.size := by obtain ⟨m, hm⟩ := k2; exact DataW.trod_lt m _ _ _ hm
  obtain ⟨z2, w2⟩ : ∃ zs, IsRow .i64 W a2 len2 cap2 zs := by
    obtain ⟨fuel, hf⟩ := h2
    rcases open_ints Tryd.underlying36 Tryd.underlying2 (by kernel_rfl) hf with ⟨hcs, _⟩ | ⟨x, l, c, zs, hcs, _, hl, hm, hz, _, hcell, hwz⟩
    · simp [Value.cells] at hcs
      obtain ⟨rfl, rfl, rfl⟩ := hcs
      exact ⟨[], .inl ⟨rfl, rfl, rfl, rfl⟩⟩
    · simp [Value.cells] at hcs
      obtain ⟨rfl, rfl, rfl⟩ := hcs
      exact ⟨zs, .inr ⟨_, rfl, hl, hm, by simpa using hz, hcell, hwz⟩⟩
  obtain ⟨a3, len3, cap3, rfl⟩ := okWide_slice Tryd.underlying37 (hval 3 37 v3 rfl rfl)
  have k3 := h3
  have lt3 : ∀ x ∈ p3, x.block < W.heap.size := by obtain ⟨m, hm⟩ := k3; exact DataW.trod_lt m _ _ _ hm
  obtain ⟨fu3, ho3⟩ := h3
  obtain ⟨A3, C3, x3, qx3, lx3, rx3, fx3⟩ := open_bools ho3
  simp only [Value.cells] at qx3
  obtain ⟨rfl, rfl, rfl⟩ : a3 = A3 ∧ len3 = x3.length ∧ cap3 = C3 := by simpa using qx3
  clear hA0
  refine (walk W a0_0 w0_0 A0_1 C0_1 x0_1 l0_1 r0_1 f0_1 a1 len1 cap1 z1 w1 a2 len2 cap2 z2 w2 a3 cap3 x3 lx3 rx3 fx3 hL).mono fun e W' ⟨he, bel⟩ => ?_
  subst he
  exact ⟨_, rfl, _, _, _, [], _, _, hW', trodAll_mk1 (shut_bool Tryd.underlying4 _), (trodAll_cons_mk (Below.trod laidOut (by kernel_rfl) (of_decide_eq_true (by kernel_rfl)) k0 bel lt0) (trodAll_cons_mk (Below.trod laidOut (by kernel_rfl) (of_decide_eq_true (by kernel_rfl)) k1 bel lt1) (trodAll_cons_mk (Below.trod laidOut (by kernel_rfl) (of_decide_eq_true (by kernel_rfl)) k2 bel lt2) (trodAll_cons_mk (Below.trod laidOut (by kernel_rfl) (of_decide_eq_true (by kernel_rfl)) k3 bel lt3) trodAll_mk0)))), (Below.trodVars laidOut bel (by kernel_rfl) hV), bel.frame _, fun h => by cases h⟩

/-- The cells of a table. -/
def flatL : DataW Unit → List Value
  | .lit (.int k n) => [.int k n]
  | .agg l => l.map fun | .lit (.int k n) => .int k n | _ => .bool false
  | _ => []
def flatD : DataW Unit → Array Value
  | .agg l => (l.flatMap flatL).toArray
  | _ => #[]
noncomputable abbrev N0 : Nat := (World.settled Tryd.prog default).heap.size
noncomputable def laidWorld (os : Os) : World :=
  { World.holding Tryd.prog os ⟨#[.cells #[.string ⟨#[110, 111, 32, 112, 111, 116, 101, 110, 116, 105, 97, 108, 115, 32, 102, 105, 116]⟩] 204, .cells #[.string ⟨#[116, 104, 101, 32, 98, 117, 100, 103, 101, 116, 32, 105, 115, 32, 115, 112, 101, 110, 116]⟩] 204], #[], []⟩ with heap := (((World.holding Tryd.prog os ⟨#[.cells #[.string ⟨#[110, 111, 32, 112, 111, 116, 101, 110, 116, 105, 97, 108, 115, 32, 102, 105, 116]⟩] 204, .cells #[.string ⟨#[116, 104, 101, 32, 98, 117, 100, 103, 101, 116, 32, 105, 115, 32, 115, 112, 101, 110, 116]⟩] 204], #[], []⟩).heap.modify 0 (fun | .cells _ t frozen => .cells #[.iface 202 (.pointer (some ⟨N0 + 0, 0, none⟩))] t frozen | o => o)).modify 1 (fun | .cells _ t frozen => .cells #[.iface 202 (.pointer (some ⟨N0 + 1, 0, none⟩))] t frozen | o => o)) }
theorem laid_met (os : Os) : laidMet Tryd.prog Rows.fnExactRegulatorDropsRow.laid ((laidWorld os).forCall (fun _ _ => 0) ⟨#[], #[.agg #[.int .i64 0, .slice none 0 0], .slice none 0 0, .slice none 0 0, .slice none 0 0], []⟩).memory :=
  (LaidIn.of_run [0, N0 + 0, 1, N0 + 1] 8 (by kernel_rfl) (by kernel_rfl) (by kernel_rfl) (by kernel_rfl)).met
theorem reads (os : Os) {H : Type} (enc : TypeId × Value → H) : ∃ places, DataW.whole enc Tryd.prog ((laidWorld os).forCall (fun _ _ => 0) ⟨#[], #[.agg #[.int .i64 0, .slice none 0 0], .slice none 0 0, .slice none 0 0, .slice none 0 0], []⟩).memory Tryd.f6.params.toList Rows.fnExactRegulatorDropsSpec.vars false (#[.agg #[.int .i64 0, .slice none 0 0], .slice none 0 0, .slice none 0 0, .slice none 0 0] : Array Value).toList 8 = some ([.agg [.lit (.int .i64 0), .nil], .nil, .nil, .nil], [.held (enc (202, .pointer (some ⟨N0 + 0, 0, none⟩))), .held (enc (202, .pointer (some ⟨N0 + 1, 0, none⟩)))], places) :=
  ⟨MemPlace.row ⟨0, 0, none⟩ 1 ++ MemPlace.row ⟨1, 0, none⟩ 1, by kernel_rfl⟩
set_option maxRecDepth 100000 in
theorem lifted (os : Os) (started : os.Started) (H : Type) (enc : TypeId × Value → H) (F : Stop.Interp) :
    ReturnsInHanded {} Tryd.checked os 6 .any ((OpenSpec.ofChange Rows.fnExactRegulatorDropsSpec).preRow enc Tryd.prog Tryd.f6 Rows.fnExactRegulatorDropsRow.domain false Rows.fnExactRegulatorDropsRow.laid) (((OpenSpec.ofChange Rows.fnExactRegulatorDropsSpec).at F).post enc Tryd.prog Tryd.f6 false true false false) := by
  obtain ⟨places, hx⟩ := reads os enc
  refine returnsInHanded_of_row (C := Tryd.checked) (s := OpenSpec.ofChange Rows.fnExactRegulatorDropsSpec) own started (by kernel_rfl) Tryd.func6
    (witness_row_atRef (enc := enc) (C := Tryd.checked) false (laidWorld os) #[.agg #[.int .i64 0, .slice none 0 0], .slice none 0 0, .slice none 0 0, .slice none 0 0] rfl (by kernel_rfl) (by kernel_rfl) (by kernel_rfl)
      (OpenSpec.preRow_of_cond 8 hx (by kernel_rfl) (fun k hk => by cases hk) (by kernel_rfl) (laid_met os))) ?_
  intro W base args ds gs before hval hW _ _ _ hL hS _
  exact contract H enc W base args ds gs before hval hW hL
set_option maxHeartbeats 4000000 in
theorem facts : joinedFacts Tryd.pinned.checked.prog 6 Tryd.f6 (OpenSpec.ofChange Rows.fnExactRegulatorDropsSpec).bare Rows.fnExactRegulatorDropsRow = true := by
  unfold joinedFacts
  simp only [Bool.and_eq_true]
  repeat' apply And.intro
  all_goals first
    | (with_reducible exact fxMay)
    | (rw [fxLifts]; as_aux_lemma => kernel_rfl)
    | (rw [fxMake]; as_aux_lemma => kernel_rfl)
    | (as_aux_lemma => kernel_rfl)
theorem said : Rows.FnExactRegulatorDropsSaid :=
  OpenClaim.holds_of_cond 6 Tryd.f6 rfl rfl rfl rfl rfl rfl rfl ⟨rfl, rfl, rfl, rfl, rfl⟩ rfl rfl rfl rfl rfl (by kernel_rfl) Tryd.func6 facts
    (of_decide_eq_true (by kernel_rfl)) (by unfold Func.isWrapper; first | (rw [if_pos (by decide +kernel)]; kernel_rfl) | (rw [if_neg (by decide +kernel)]; exact ⟨rfl, rfl⟩))
    (fun os started H enc _ F => by rw [OpenClaim.pre_eq_preRow]; exact lifted os started H enc F)
theorem plain (f : FuncId) (fn : Func) (hf : Tryd.pinned.checked.prog.funcNamed "loop.example/g01021/laws.FnExactRegulatorDrops" = some f) (hfn : Tryd.pinned.checked.prog.funcs[f]? = some fn) :
    true = Tryd.pinned.checked.prog.looks [] ∧ ∀ (j : Nat) t, fn.params[j]? = some t → Tryd.pinned.checked.prog.wantsStandIn t = false := by
  obtain rfl : f = 6 := Option.some.inj ((show Tryd.prog.funcNamed "loop.example/g01021/laws.FnExactRegulatorDrops" = some 6 by kernel_rfl).symm.trans hf) |>.symm
  obtain rfl : fn = Tryd.f6 := (Option.some.inj (Tryd.func6.symm.trans hfn)).symm
  refine ⟨by kernel_rfl, fun j t ht => ?_⟩
  rw [Tryd.params6] at ht
  have hm := Array.mem_of_getElem? ht
  simp only [List.mem_toArray, List.mem_cons, List.not_mem_nil, or_false] at hm
  rcases hm with rfl | rfl | rfl | rfl
  · exact (show Tryd.prog.wantsStandIn 35 = false by kernel_rfl)
  · exact (show Tryd.prog.wantsStandIn 36 = false by kernel_rfl)
  · exact (show Tryd.prog.wantsStandIn 36 = false by kernel_rfl)
  · exact (show Tryd.prog.wantsStandIn 37 = false by kernel_rfl)
theorem proved : Rows.FnExactRegulatorDropsCardSaid :=
  Claim7.holds_tied_plain_at .later [] _ _ _ _ said (fun _ h => by cases h) (by kernel_rfl) (fun _ h => by cases h) fnExactRegulatorDrops_row_tie rfl ⟨rfl, rfl⟩ (by kernel_rfl) rfl plain (by kernel_rfl)
#print axioms proved
end Go.Proofs.YthbofhlfggkolaaDoor.fnExactRegulatorDrops
