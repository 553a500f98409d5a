/-
  PROVED: for every input the function laws.FnExactWarmAirways returns true and leaves its arguments as they were. Conditions: none.
-/
import Derived.Test.YtoojndohddellabRows
import Derived.Test.YtoojndohddellabZh
import Derived.Test.YtoojndohddellabWe
import Derived.Test.YtoojndohddellabQl
import Derived.Test.YtoojndohddellabFx
import Derived.WalkKit
import Derived.ProofKit
import Derived.OpenShut
import Derived.ShutString
import Derived.ChangeOld
import Derived.Below
import Derived.Carry
import Derived.Lib.SmallJoins
import Derived.ChangeArms
namespace Go.Proofs.Ytoojndohddellab.fnExactWarmAirways
open Go.ChangeShapes Go.WideShapes Go.ChangeAt Go.RowKit
open Go.ChangeMaps (open_string shut_string)
open Go.Joins Go.Deep
set_option linter.unusedVariables false
set_option linter.unusedSimpArgs false

theorem own : ownKnob Try.prog.godebug = none := by kernel_rfl
theorem laidOut : laidOutB Try.prog = true := by kernel_rfl
section
variable {H : Type} {enc : TypeId × Value → H} {P : Program} {w : World} {base : Nat} {spare : Nat → Bool} {held : Bool}
theorem open_fields {r : Reach} {b0 : Nat} {t : TypeId} {fs : Array Field} {v : Value} {d : DataW H} {p : List MemPlace} (hs : P.underlying t = some (.struct fs)) (hone : oneCellFields P fs = true) (hC : P.cellsOf t = fs.size)
    (hv : Value.okWide P w r b0 t v) (h : DataW.Trod enc P w base spare held t v d p) :
    ∃ l : List Value, v = .agg ⟨l⟩ ∧ l.length = fs.size ∧ ∀ (j : Nat) (f : Field), fs[j]? = some f → ∃ (c : Value) (n : Nat) (y : DataW H × List MemPlace), l[j]? = some c ∧ DataW.trod enc P w base spare held n f.type [c] = some y := by
  obtain ⟨cs, rfl, hsz⟩ := okWide_struct hs hv
  obtain ⟨l⟩ := cs
  obtain ⟨fuel, hf⟩ := h
  obtain ⟨xs, n, _, _, _, hlen, hg⟩ := DataW.trod_struct hs hf
  have hl : l.length = fs.size := by simpa using hsz.trans hC
  refine ⟨l, rfl, hl, fun j f hj => ?_⟩
  obtain ⟨o, k⟩ := hone_of hone j f hj
  have hjf : j < fs.size := (Array.getElem?_eq_some_iff.1 hj).1
  have hjl : j < l.length := by omega
  have h1 := hg j f hj
  rw [o, k] at h1
  have e : (l.drop j).take 1 = [l[j]] := by
    rw [List.drop_eq_getElem_cons hjl]; rfl
  replace h1 : DataW.trod enc P w base spare held n f.type ((l.drop j).take 1) = xs[j]? := by simpa [Value.cells] using h1
  rw [e] at h1
  have hx : xs[j]? = some (xs[j]'(by omega)) := List.getElem?_eq_getElem (by omega)
  exact ⟨l[j], _, _, List.getElem?_eq_getElem hjl, h1.trans hx⟩
end
/-- A slice of integers that came in: nil, or a row of 'cap' cells. -/
def IsRow (k : IntKind) (w : World) (a : Option Addr) (len cap : Nat) (zs : List Int) : Prop :=
  (a = none ∧ len = 0 ∧ cap = 0 ∧ zs = []) ∨
  ∃ x, a = some x ∧ len ≤ cap ∧ cap ≤ maxLen ∧ zs.length = cap ∧ (∀ i, i < zs.length → w.cell? (x.add i) = some (.int k (zs.getD i 0))) ∧ ∀ n ∈ zs, (Lit.int k n).wf = true
theorem rowW {w : World} {a : Option Addr} {len cap : Nat} {zs : List Int} (h : IsRow .i64 w a len cap zs) : ∃ xs, xs.length = len ∧ RowW .i64 w (.slice a len cap) xs := by
  rcases h with ⟨rfl, rfl, rfl, rfl⟩ | ⟨x, rfl, hlc, hcm, hzl, hcell, hwf⟩
  · exact ⟨[], rfl, none, 0, rfl, fun j hj => absurd hj (by simp)⟩
  · have hl : (zs.take len).length = len := by rw [List.length_take]; omega
    refine ⟨zs.take len, hl, some x, cap, by rw [hl], fun j hj => ?_⟩
    rw [hl] at hj
    have h0 := hcell 0 (by omega)
    obtain ⟨b, off, sp⟩ := x
    have hsp : sp = none := by
      unfold Addr.add World.cell? at h0
      rw [if_pos rfl] at h0
      cases sp with
      | none => rfl
      | some q => cases hq : w.heap[b]? with
        | none => simp [hq] at h0
        | some o => cases o <;> simp [hq] at h0
    subst hsp
    refine ⟨b, off, rfl, ?_⟩
    have := hcell j (by omega)
    rw [List.getD_eq_getElem?_getD, List.getElem?_take, if_pos hj, ← List.getD_eq_getElem?_getD, ← this]
    unfold Addr.add
    split
    · rename_i h; subst h; rfl
    · rfl
set_option maxHeartbeats 4000000 in

theorem walk (w : World) (a0_0 : Int) (w0_0 : (Lit.int .i64 a0_0).wf = true) (A0_1 : Option Addr) (C0_1 : Nat) (x0_1 : List Aw) (l0_1 : x0_1.length ≤ maxLen) (r0_1 : AwR w A0_1 x0_1) (f0_1 : ∀ a ∈ x0_1, a.fits) (a1 : Option Addr) (len1 cap1 : Nat) (z1 : List Int) (w1 : IsRow .i64 w a1 len1 cap1 z1) (a2 : Option Addr) (len2 cap2 : Nat) (z2 : List Int) (w2 : IsRow .i64 w a2 len2 cap2 z2) (a3 : Int) (w3 : (Lit.int .i64 a3).wf = true) :
    Calls Try.prog 4 #[.agg #[.int .i64 a0_0, .slice A0_1 x0_1.length C0_1], .slice a1 len1 cap1, .slice a2 len2 cap2, .int .i64 a3] w fun e w' => e = .returned (.bool true) ∧ Below w.heap.size w w' := by
  obtain ⟨y1, rfl, hy1⟩ := rowW w1
  have HY1 := Lib.hid hy1
  clear hy1 w1
  obtain ⟨y2, rfl, hy2⟩ := rowW w2
  have HY2 := Lib.hid hy2
  clear hy2 w2
  have RW := Lib.hid r0_1
  have hB0 : Below w.heap.size w (w.alloc (.cells #[.int .i64 a0_0, .slice A0_1 x0_1.length C0_1] 24)) := (by repeat (first | (with_reducible exact Below.refl _ _) | (with_reducible refine below_drewN' ?_ _) | (with_reducible refine Below.alloc ?_ (by simp <;> omega) _) | (with_reducible refine Below.setCell ?_ (by simp) _)))
  have R0 := Lib.hid (r0_1.below hB0)
  have S0 := Lib.hid (fun a ha => (f0_1 a ha).1)
  have HLL0 := Lib.hid l0_1
  clear hB0 r0_1
  by_cases hlong1 : 1048576 < y1.length
  · have t1 : (1048576 : Int) < (y1.length : Int) := by omega
    go_enter Try.func4, Try.ntmps4
    go_wp2
    go_ret
    exact ⟨rfl, below_box _ _⟩
  have hl1 : y1.length ≤ 1048576 := by omega
  have t1_1 : ¬ (1048576 : Int) < (y1.length : Int) := by omega
  have t2_1 : decide ((1048576 : Int) < (y1.length : Int)) = false := decide_eq_false t1_1
  clear hlong1
  by_cases hlong2 : 1048576 < y2.length
  · have t1 : (1048576 : Int) < (y2.length : Int) := by omega
    go_enter Try.func4, Try.ntmps4
    go_wp2
    go_ret
    exact ⟨rfl, below_box _ _⟩
  have hl2 : y2.length ≤ 1048576 := by omega
  have t1_2 : ¬ (1048576 : Int) < (y2.length : Int) := by omega
  have t2_2 : decide ((1048576 : Int) < (y2.length : Int)) = false := decide_eq_false t1_2
  clear hlong2
  by_cases hs : szL 1048576 x0_1 < 0
  · go_enter Try.func4, Try.ntmps4
    go_wp2_with fail
    (with_reducible refine (szMine_any a0_0 A0_1 C0_1 x0_1 (1048576) _ (R0.out.below (Below.refl _ (w.alloc (.cells #[.int .i64 a0_0, .slice A0_1 x0_1.length C0_1] 24)))) S0.out HLL0.out (by omega)).mono ?_)
    rintro e w1 ⟨rfl, hd1⟩
    have hb1 := hd1
    obtain ⟨hc1, hf1⟩ := bcell hb1
    have hz1 : w.heap.size < w1.heap.size := Nat.lt_of_lt_of_le (by first | (simp; done) | (simp; omega)) hb1.size
    clear hd1
    go_wp2
    go_ret
    exact ⟨rfl, (show Below w.heap.size w w1 from (below_box _ _).trans (hb1.mono (by simp)))⟩
  · have HL0 := Lib.hid (show x0_1.length ≤ 1048576 from by have := (szL_bd (by omega) (Int.not_lt.1 hs)).1; omega)
    have HLN := Lib.hid (show (wgR a0_0 x0_1 y1 y2 a3).length ≤ 1048576 from wgR_len _ _ _ _ _ hl1)
    have ca0_0 : (w.alloc (.cells #[.int .i64 a0_0, .slice A0_1 x0_1.length C0_1] 24)).cell? ⟨w.heap.size, 0, none⟩ = some (.int .i64 a0_0) := by simp
    have ca1_0 : (w.alloc (.cells #[.int .i64 a0_0, .slice A0_1 x0_1.length C0_1] 24)).cell? ⟨w.heap.size, 1, none⟩ = some (.slice A0_1 x0_1.length C0_1) := by simp
    have hzA : w.heap.size < (w.alloc (.cells #[.int .i64 a0_0, .slice A0_1 x0_1.length C0_1] 24)).heap.size := by simp
    have HB0 := Lib.hid (below_box w (.cells #[.int .i64 a0_0, .slice A0_1 x0_1.length C0_1] 24))
    clear R0
    go_enter Try.func4, Try.ntmps4
    go_wp2_with fail
    generalize w.alloc (.cells #[.int .i64 a0_0, .slice A0_1 x0_1.length C0_1] 24) = W0 at *
    go_wp2_with fail
    (with_reducible refine (szMine_any a0_0 A0_1 C0_1 x0_1 (1048576) _ (RW.out.below HB0.out) S0.out HLL0.out (by omega)).mono ?_)
    rintro e W1 ⟨rfl, hd⟩
    have B1 := Lib.hid (show Below W0.heap.size W0 W1 from hd)
    have HB1 := Lib.hid (HB0.out.trans (B1.out.mono HB0.out.size))
    have hs1 : W0.heap.size ≤ W1.heap.size := B1.out.size
    have ca0_1 := cellK1 ca0_0 B1.out
    have ca1_1 := cellK1 ca1_0 B1.out
    clear ca0_0 ca1_0
    try clear hd
    go_wp2_with fail
    (with_reducible refine (toMine_any a0_0 A0_1 C0_1 x0_1 _ (RW.out.below HB1.out) HL0.out).mono ?_)
    rintro e W2 ⟨gs, rfl, hk, hggs, hd⟩
    have B2 := Lib.hid (show Below W1.heap.size W1 W2 from hd)
    have HB2 := Lib.hid (HB1.out.trans (B2.out.mono HB1.out.size))
    have hs2 : W1.heap.size ≤ W2.heap.size := B2.out.size
    have ca0_2 := cellK1 ca0_1 B2.out
    have ca1_2 := cellK1 ca1_1 B2.out
    clear ca0_1 ca1_1
    have Kgs_2 := Lib.hid hk
    clear hk
    try clear hd
    go_wp2_with fail
    (with_reducible refine (toInt64S_ownI _ y1 _ (HY1.out.below HB2.out) hl1).mono ?_)
    rintro e W3 ⟨vs1, rfl, ho, hr, hd⟩
    have B3 := Lib.hid (show Below W2.heap.size W2 W3 from hd)
    have HB3 := Lib.hid (HB2.out.trans (B3.out.mono HB2.out.size))
    have hs3 : W2.heap.size ≤ W3.heap.size := B3.out.size
    have ca0_3 := cellK1 ca0_2 B3.out
    have ca1_3 := cellK1 ca1_2 B3.out
    clear ca0_2 ca1_2
    have Kgs_3 := Lib.hid (Kgs_2.out.below B3.out Kgs_2.out.lt)
    have Os1_3 := Lib.hid ho
    clear ho hr
    try clear hd
    go_wp2_with fail
    (with_reducible refine (toInt64S_ownI _ y2 _ (HY2.out.below HB3.out) hl2).mono ?_)
    rintro e W4 ⟨vs2, rfl, ho, hr, hd⟩
    have B4 := Lib.hid (show Below W3.heap.size W3 W4 from hd)
    have HB4 := Lib.hid (HB3.out.trans (B4.out.mono HB3.out.size))
    have hs4 : W3.heap.size ≤ W4.heap.size := B4.out.size
    have ca0_4 := cellK1 ca0_3 B4.out
    have ca1_4 := cellK1 ca1_3 B4.out
    clear ca0_3 ca1_3
    have Os1_4 := Lib.hid (Os1_3.out.below B4.out)
    have Kgs_4 := Lib.hid (Kgs_3.out.below B4.out Kgs_3.out.lt)
    have Os2_4 := Lib.hid ho
    clear ho hr
    try clear hd
    go_wp2_with fail
    (with_reducible refine (sWarmAirways_any a0_0 (some ⟨gs, 0, none⟩) x0_1.length x0_1 _ y1 _ y2 a3 _ Kgs_4.out.awr S0.out HL0.out (row_ownI Os1_4.out) hl1 (row_ownI Os2_4.out) hl2).mono ?_)
    rintro e W5 ⟨vw, rfl, ho, hd⟩
    have B5 := Lib.hid (show Below W4.heap.size W4 W5 from hd)
    have HB5 := Lib.hid (HB4.out.trans (B5.out.mono HB4.out.size))
    have hs5 : W4.heap.size ≤ W5.heap.size := B5.out.size
    have ca0_5 := cellK1 ca0_4 B5.out
    have ca1_5 := cellK1 ca1_4 B5.out
    clear ca0_4 ca1_4
    have Os1_5 := Lib.hid (Os1_4.out.below B5.out)
    have Os2_5 := Lib.hid (Os2_4.out.below B5.out)
    have Kgs_5 := Lib.hid (Kgs_4.out.below B5.out Kgs_4.out.lt)
    have Ow_5 := Lib.hid ho
    clear ho
    try clear hd
    go_wp2_with fail
    (with_reducible refine (toMine_any a0_0 A0_1 C0_1 x0_1 _ (RW.out.below HB5.out) HL0.out).mono ?_)
    rintro e W6 ⟨gx, rfl, hk, hggx, hd⟩
    have B6 := Lib.hid (show Below W5.heap.size W5 W6 from hd)
    have HB6 := Lib.hid (HB5.out.trans (B6.out.mono HB5.out.size))
    have hs6 : W5.heap.size ≤ W6.heap.size := B6.out.size
    have ca0_6 := cellK1 ca0_5 B6.out
    have ca1_6 := cellK1 ca1_5 B6.out
    clear ca0_5 ca1_5
    have Ow_6 := Lib.hid (Ow_5.out.below B6.out)
    have Kgx_6 := Lib.hid hk
    clear hk
    try clear hd
    have cx0_7 : (W6.alloc (.cells #[.int .i64 a0_0, .slice (some ⟨gx, 0, none⟩) x0_1.length x0_1.length] 32)).cell? ⟨W6.heap.size, 0, none⟩ = some (.int .i64 a0_0) := by simp
    have cx1_7 : (W6.alloc (.cells #[.int .i64 a0_0, .slice (some ⟨gx, 0, none⟩) x0_1.length x0_1.length] 32)).cell? ⟨W6.heap.size, 1, none⟩ = some (.slice (some ⟨gx, 0, none⟩) x0_1.length x0_1.length) := by simp
    have B7 := Lib.hid (below_box W6 (.cells #[.int .i64 a0_0, .slice (some ⟨gx, 0, none⟩) x0_1.length x0_1.length] 32))
    have HB7 := Lib.hid (HB6.out.trans (B7.out.mono HB6.out.size))
    have hs7 : W6.heap.size < (W6.alloc (.cells #[.int .i64 a0_0, .slice (some ⟨gx, 0, none⟩) x0_1.length x0_1.length] 32)).heap.size := by simp
    have ca0_7 := cellK1 ca0_6 B7.out
    have ca1_7 := cellK1 ca1_6 B7.out
    clear ca0_6 ca1_6
    have Ow_7 := Lib.hid (Ow_6.out.below B7.out)
    have Kgx_7 := Lib.hid (Kgx_6.out.below B7.out Kgx_6.out.lt)
    go_wp2_with fail
    generalize W6.alloc (.cells #[.int .i64 a0_0, .slice (some ⟨gx, 0, none⟩) x0_1.length x0_1.length] 32) = W7 at *
    go_wp2_with fail
    (with_reducible refine (toInt64S_ownI _ y1 _ (HY1.out.below HB7.out) hl1).mono ?_)
    rintro e W8 ⟨vx1, rfl, ho, hr, hd⟩
    have B8 := Lib.hid (show Below W7.heap.size W7 W8 from hd)
    have HB8 := Lib.hid (HB7.out.trans (B8.out.mono HB7.out.size))
    have hs8 : W7.heap.size ≤ W8.heap.size := B8.out.size
    have ca0_8 := cellK1 ca0_7 B8.out
    have ca1_8 := cellK1 ca1_7 B8.out
    have cx0_8 := cellK1 cx0_7 B8.out
    have cx1_8 := cellK1 cx1_7 B8.out
    clear ca0_7 ca1_7 cx0_7 cx1_7
    have Ow_8 := Lib.hid (Ow_7.out.below B8.out)
    have Kgx_8 := Lib.hid (Kgx_7.out.below B8.out Kgx_7.out.lt)
    have Ox1_8 := Lib.hid ho
    clear ho hr
    try clear hd
    go_wp2_with fail
    (with_reducible refine (toInt64S_ownI _ y2 _ (HY2.out.below HB8.out) hl2).mono ?_)
    rintro e W9 ⟨vx2, rfl, ho, hr, hd⟩
    have B9 := Lib.hid (show Below W8.heap.size W8 W9 from hd)
    have HB9 := Lib.hid (HB8.out.trans (B9.out.mono HB8.out.size))
    have hs9 : W8.heap.size ≤ W9.heap.size := B9.out.size
    have ca0_9 := cellK1 ca0_8 B9.out
    have ca1_9 := cellK1 ca1_8 B9.out
    have cx0_9 := cellK1 cx0_8 B9.out
    have cx1_9 := cellK1 cx1_8 B9.out
    clear ca0_8 ca1_8 cx0_8 cx1_8
    have Ow_9 := Lib.hid (Ow_8.out.below B9.out)
    have Ox1_9 := Lib.hid (Ox1_8.out.below B9.out)
    have Kgx_9 := Lib.hid (Kgx_8.out.below B9.out Kgx_8.out.lt)
    have Ox2_9 := Lib.hid ho
    clear ho hr
    try clear hd
    go_wp2_with fail
    (with_reducible refine (iWarmAirways_any a0_0 (some ⟨gx, 0, none⟩) x0_1.length x0_1 _ y1 _ y2 a3 _ Kgx_9.out.awr S0.out HL0.out (row_ownI Ox1_9.out) hl1 (row_ownI Ox2_9.out) hl2).mono ?_)
    rintro e W10 ⟨vg, rfl, ho, hd⟩
    have B10 := Lib.hid (show Below W9.heap.size W9 W10 from hd)
    have HB10 := Lib.hid (HB9.out.trans (B10.out.mono HB9.out.size))
    have hs10 : W9.heap.size ≤ W10.heap.size := B10.out.size
    have ca0_10 := cellK1 ca0_9 B10.out
    have ca1_10 := cellK1 ca1_9 B10.out
    have cx0_10 := cellK1 cx0_9 B10.out
    have cx1_10 := cellK1 cx1_9 B10.out
    clear ca0_9 ca1_9 cx0_9 cx1_9
    have Ow_10 := Lib.hid (Ow_9.out.below B10.out)
    have Ox1_10 := Lib.hid (Ox1_9.out.below B10.out)
    have Ox2_10 := Lib.hid (Ox2_9.out.below B10.out)
    have Kgx_10 := Lib.hid (Kgx_9.out.below B10.out Kgx_9.out.lt)
    have Og_10 := Lib.hid ho
    clear ho
    try clear hd
    go_wp2_with fail
    (with_reducible refine (eqInt64S_w vg vw (wgR a0_0 x0_1 y1 y2 a3) _ (RowW.of_ownI Og_10.out) (RowW.of_ownI Ow_10.out) (by have := HLN.out; omega)).mono ?_)
    rintro e W11 ⟨rfl, n11, hn⟩
    have B11 := Lib.hid (show Below W10.heap.size W10 W11 from hn ▸ below_drewN (Below.refl _ _) n11)
    have HB11 := Lib.hid (HB10.out.trans (B11.out.mono HB10.out.size))
    have hs11 : W10.heap.size ≤ W11.heap.size := B11.out.size
    have ca0_11 := cellK1 ca0_10 B11.out
    have ca1_11 := cellK1 ca1_10 B11.out
    have cx0_11 := cellK1 cx0_10 B11.out
    have cx1_11 := cellK1 cx1_10 B11.out
    clear ca0_10 ca1_10 cx0_10 cx1_10
    have Ow_11 := Lib.hid (Ow_10.out.below B11.out)
    have Ox1_11 := Lib.hid (Ox1_10.out.below B11.out)
    have Ox2_11 := Lib.hid (Ox2_10.out.below B11.out)
    have Og_11 := Lib.hid (Og_10.out.below B11.out)
    have Kgx_11 := Lib.hid (Kgx_10.out.below B11.out Kgx_10.out.lt)
    clear hn
    try clear hd
    go_wp2_with fail
    refine wp_region_held (S := fun w' => ((w'.cell? ⟨W6.heap.size, 0, none⟩ = some (.int .i64 a0_0) ∧ w'.cell? ⟨W6.heap.size, 1, none⟩ = some (.slice (some ⟨gx, 0, none⟩) x0_1.length x0_1.length)) ∧ (w'.cell? ⟨w.heap.size, 0, none⟩ = some (.int .i64 a0_0) ∧ w'.cell? ⟨w.heap.size, 1, none⟩ = some (.slice A0_1 x0_1.length C0_1))) ∧ Below W11.heap.size W11 w') (by kernel_rfl) ?_
    try (change wpAnyH _ _ _ _ _ _ _ _ (World.drew _))
    have hS0 := (show ((W11.drew.cell? ⟨W6.heap.size, 0, none⟩ = some (.int .i64 a0_0) ∧ W11.drew.cell? ⟨W6.heap.size, 1, none⟩ = some (.slice (some ⟨gx, 0, none⟩) x0_1.length x0_1.length)) ∧ (W11.drew.cell? ⟨w.heap.size, 0, none⟩ = some (.int .i64 a0_0) ∧ W11.drew.cell? ⟨w.heap.size, 1, none⟩ = some (.slice A0_1 x0_1.length C0_1))) ∧ Below W11.heap.size W11 W11.drew from ⟨⟨⟨cx0_11, cx1_11⟩, ca0_11, ca1_11⟩, Below.drew (Below.refl _ _)⟩)
    refine gTake 0 (v := ?_) rfl (by kernel_rfl) (by kernel_rfl) (by kernel_rfl) (fun _ _ _ h => h) (by kernel_rfl) ?_ hS0 ?_
    rotate_left
    · (intro W hW; have q0 := hW.1.1.1; have q1 := hW.1.1.2; have q2 := hW.1.2.1; have q3 := hW.1.2.2; clear hW; go_simp; try with_reducible rfl)
    refine gTake 1 (v := ?_) rfl (by kernel_rfl) (by kernel_rfl) (by kernel_rfl) (fun _ _ _ h => h) (by kernel_rfl) ?_ hS0 ?_
    rotate_left
    · (intro W hW; have q0 := hW.1.1.1; have q1 := hW.1.1.2; have q2 := hW.1.2.1; have q3 := hW.1.2.2; clear hW; go_simp; try with_reducible rfl)
    refine gOne 2 rfl (by kernel_rfl) (by kernel_rfl) (fun K hK => ?_)
    go_simp
    go_at_call 8
    (with_reducible refine (toMine_any a0_0 A0_1 C0_1 x0_1 _ (RW.out.below (HB11.out.trans (hS0.2.mono HB11.out.size))) HL0.out).mono ?_)
    rintro e W12 ⟨gy, rfl, hk, hgy, hd⟩
    have KY := Lib.hid hk
    clear hk hgy
    try go_simp
    have hS1 := (show ((W12.cell? ⟨W6.heap.size, 0, none⟩ = some (.int .i64 a0_0) ∧ W12.cell? ⟨W6.heap.size, 1, none⟩ = some (.slice (some ⟨gx, 0, none⟩) x0_1.length x0_1.length)) ∧ (W12.cell? ⟨w.heap.size, 0, none⟩ = some (.int .i64 a0_0) ∧ W12.cell? ⟨w.heap.size, 1, none⟩ = some (.slice A0_1 x0_1.length C0_1))) ∧ Below W11.heap.size W11 W12 from ⟨⟨⟨cellK1 hS0.1.1.1 hd, cellK1 hS0.1.1.2 hd⟩, cellK1 hS0.1.2.1 hd, cellK1 hS0.1.2.2 hd⟩, hS0.2.trans (hd.mono hS0.2.size)⟩)
    refine hK _ _ hS1 ?_
    clear hK K
    refine gOne 3 rfl (by kernel_rfl) (by kernel_rfl) (fun K hK => ?_)
    go_simp
    go_at_call 13
    (with_reducible refine (eqMine_same a0_0 (some ⟨gx, 0, none⟩) (some ⟨gy, 0, none⟩) x0_1.length x0_1.length x0_1 _ (Kgx_11.out.awr.below hS1.2) KY.out.awr HL0.out).mono ?_)
    rintro e W13 ⟨rfl, hd2⟩
    try go_simp
    have hS2 := (show ((W13.cell? ⟨W6.heap.size, 0, none⟩ = some (.int .i64 a0_0) ∧ W13.cell? ⟨W6.heap.size, 1, none⟩ = some (.slice (some ⟨gx, 0, none⟩) x0_1.length x0_1.length)) ∧ (W13.cell? ⟨w.heap.size, 0, none⟩ = some (.int .i64 a0_0) ∧ W13.cell? ⟨w.heap.size, 1, none⟩ = some (.slice A0_1 x0_1.length C0_1))) ∧ Below W11.heap.size W11 W13 from ⟨⟨⟨cellK1 hS1.1.1.1 hd2, cellK1 hS1.1.1.2 hd2⟩, cellK1 hS1.1.2.1 hd2, cellK1 hS1.1.2.2 hd2⟩, hS1.2.trans (hd2.mono hS1.2.size)⟩)
    refine hK _ _ hS2 ?_
    clear hK K
    refine gTake 4 (v := ?_) rfl (by kernel_rfl) (by kernel_rfl) (by kernel_rfl) (fun _ _ _ h => h) (by kernel_rfl) ?_ hS2 ?_
    rotate_left
    · (intro W hW; clear hW; go_simp; try with_reducible rfl)
    refine wpAnyH_done (by kernel_rfl) ?_ _
    go_simp
    have B13 := Lib.hid (show Below W11.heap.size W11 W13 from hS2.2)
    have HB13 := Lib.hid (HB11.out.trans (B13.out.mono HB11.out.size))
    have hs13 : W11.heap.size ≤ W13.heap.size := B13.out.size
    have ca0_13 := cellK1 ca0_11 B13.out
    have ca1_13 := cellK1 ca1_11 B13.out
    have cx0_13 := cellK1 cx0_11 B13.out
    have cx1_13 := cellK1 cx1_11 B13.out
    clear ca0_11 ca1_11 cx0_11 cx1_11
    have Ow_13 := Lib.hid (Ow_11.out.below B13.out)
    have Ox1_13 := Lib.hid (Ox1_11.out.below B13.out)
    have Ox2_13 := Lib.hid (Ox2_11.out.below B13.out)
    have Og_13 := Lib.hid (Og_11.out.below B13.out)
    have Kgx_13 := Lib.hid (Kgx_11.out.below B13.out Kgx_11.out.lt)
    clear hS0 hS1 hS2 hd hd2 KY
    go_wp2_with fail
    (with_reducible refine (toInt64S_ownI _ y1 _ (HY1.out.below HB13.out) hl1).mono ?_)
    rintro e W14 ⟨vb1, rfl, ho, hr, hd⟩
    have B14 := Lib.hid (show Below W13.heap.size W13 W14 from hd)
    have HB14 := Lib.hid (HB13.out.trans (B14.out.mono HB13.out.size))
    have hs14 : W13.heap.size ≤ W14.heap.size := B14.out.size
    have ca0_14 := cellK1 ca0_13 B14.out
    have ca1_14 := cellK1 ca1_13 B14.out
    have cx0_14 := cellK1 cx0_13 B14.out
    have cx1_14 := cellK1 cx1_13 B14.out
    clear ca0_13 ca1_13 cx0_13 cx1_13
    have Ow_14 := Lib.hid (Ow_13.out.below B14.out)
    have Ox1_14 := Lib.hid (Ox1_13.out.below B14.out)
    have Ox2_14 := Lib.hid (Ox2_13.out.below B14.out)
    have Og_14 := Lib.hid (Og_13.out.below B14.out)
    have Kgx_14 := Lib.hid (Kgx_13.out.below B14.out Kgx_13.out.lt)
    have Ob1_14 := Lib.hid ho
    clear ho hr
    try clear hd
    go_wp2_with fail
    (with_reducible refine (eqInt64S_w vx1 vb1 y1 _ (RowW.of_ownI Ox1_14.out) (RowW.of_ownI Ob1_14.out) (by omega)).mono ?_)
    rintro e W15 ⟨rfl, n15, hn⟩
    have B15 := Lib.hid (show Below W14.heap.size W14 W15 from hn ▸ below_drewN (Below.refl _ _) n15)
    have HB15 := Lib.hid (HB14.out.trans (B15.out.mono HB14.out.size))
    have hs15 : W14.heap.size ≤ W15.heap.size := B15.out.size
    have ca0_15 := cellK1 ca0_14 B15.out
    have ca1_15 := cellK1 ca1_14 B15.out
    have cx0_15 := cellK1 cx0_14 B15.out
    have cx1_15 := cellK1 cx1_14 B15.out
    clear ca0_14 ca1_14 cx0_14 cx1_14
    have Ow_15 := Lib.hid (Ow_14.out.below B15.out)
    have Ox1_15 := Lib.hid (Ox1_14.out.below B15.out)
    have Ox2_15 := Lib.hid (Ox2_14.out.below B15.out)
    have Og_15 := Lib.hid (Og_14.out.below B15.out)
    have Ob1_15 := Lib.hid (Ob1_14.out.below B15.out)
    have Kgx_15 := Lib.hid (Kgx_14.out.below B15.out Kgx_14.out.lt)
    clear hn
    try clear hd
    go_wp2_with fail
    (with_reducible refine (toInt64S_ownI _ y2 _ (HY2.out.below HB15.out) hl2).mono ?_)
    rintro e W16 ⟨vb2, rfl, ho, hr, hd⟩
    have B16 := Lib.hid (show Below W15.heap.size W15 W16 from hd)
    have HB16 := Lib.hid (HB15.out.trans (B16.out.mono HB15.out.size))
    have hs16 : W15.heap.size ≤ W16.heap.size := B16.out.size
    have ca0_16 := cellK1 ca0_15 B16.out
    have ca1_16 := cellK1 ca1_15 B16.out
    have cx0_16 := cellK1 cx0_15 B16.out
    have cx1_16 := cellK1 cx1_15 B16.out
    clear ca0_15 ca1_15 cx0_15 cx1_15
    have Ow_16 := Lib.hid (Ow_15.out.below B16.out)
    have Ox1_16 := Lib.hid (Ox1_15.out.below B16.out)
    have Ox2_16 := Lib.hid (Ox2_15.out.below B16.out)
    have Og_16 := Lib.hid (Og_15.out.below B16.out)
    have Kgx_16 := Lib.hid (Kgx_15.out.below B16.out Kgx_15.out.lt)
    have Ob2_16 := Lib.hid ho
    clear ho hr
    try clear hd
    go_wp2_with fail
    (with_reducible refine (eqInt64S_w vx2 vb2 y2 _ (RowW.of_ownI Ox2_16.out) (RowW.of_ownI Ob2_16.out) (by omega)).mono ?_)
    rintro e W17 ⟨rfl, n17, hn⟩
    have B17 := Lib.hid (show Below W16.heap.size W16 W17 from hn ▸ below_drewN (Below.refl _ _) n17)
    have HB17 := Lib.hid (HB16.out.trans (B17.out.mono HB16.out.size))
    have hs17 : W16.heap.size ≤ W17.heap.size := B17.out.size
    have ca0_17 := cellK1 ca0_16 B17.out
    have ca1_17 := cellK1 ca1_16 B17.out
    have cx0_17 := cellK1 cx0_16 B17.out
    have cx1_17 := cellK1 cx1_16 B17.out
    clear ca0_16 ca1_16 cx0_16 cx1_16
    have Ow_17 := Lib.hid (Ow_16.out.below B17.out)
    have Ox1_17 := Lib.hid (Ox1_16.out.below B17.out)
    have Ox2_17 := Lib.hid (Ox2_16.out.below B17.out)
    have Og_17 := Lib.hid (Og_16.out.below B17.out)
    have Ob2_17 := Lib.hid (Ob2_16.out.below B17.out)
    have Kgx_17 := Lib.hid (Kgx_16.out.below B17.out Kgx_16.out.lt)
    clear hn
    try clear hd
    go_wp2_with fail
    (with_reducible refine (markMine_any a0_0 gx x0_1.length 1 (awsV x0_1) _ Kgx_17.out (awsV_len x0_1) HL0.out (by omega)).mono ?_)
    rintro e W18 ⟨rfl, hg⟩
    have G18 := Lib.hid hg
    clear hg
    have hs18 : W17.heap.size ≤ W18.heap.size := G18.out.size
    have HB18 := Lib.hid (Below.grown HB17.out G18.out HB17.out.size (fun k hk => by injection hk with hk; omega))
    have hgl := blks_lt Kgx_6.out
    have ca0_18 := G18.out.cell ca0_17 (by intro h; injection h with h; simp only at h; omega)
    have ca1_18 := G18.out.cell ca1_17 (by intro h; injection h with h; simp only at h; omega)
    have cx0_18 := G18.out.cell cx0_17 (by intro h; injection h with h; simp only at h; omega)
    have cx1_18 := G18.out.cell cx1_17 (by intro h; injection h with h; simp only at h; omega)
    clear ca0_17 ca1_17 cx0_17 cx1_17
    have Ow_18 := Lib.hid (own_far Ow_17.out (fun k hk => by have := Ow_5.out.lt k hk; omega) G18.out)
    have Ox1_18 := Lib.hid (own_far Ox1_17.out (fun k hk => by have := Ox1_8.out.lt k hk; omega) G18.out)
    have Ox2_18 := Lib.hid (own_far Ox2_17.out (fun k hk => by have := Ox2_9.out.lt k hk; omega) G18.out)
    have Og_18 := Lib.hid (own_far Og_17.out (fun k hk => by have := Og_10.out.lt k hk; omega) G18.out)
    have hml : x0_1.length ≤ 1048576 := HL0.out
    go_wp2_with fail
    (with_reducible refine (markInt64SB_any W7.heap.size vx1 y1 (1 + 7 * (x0_1.length : Int)) _ Ox1_18.out (by first | omega | (have := HLN.out; omega)) (by omega)).mono ?_)
    rintro e W19 ⟨rfl, ho, hg⟩
    have G19 := Lib.hid hg
    have Ox1_19 := Lib.hid ho
    clear ho hg
    have hs19 : W18.heap.size ≤ W19.heap.size := G19.out.size
    have HB19 := Lib.hid (Below.grown HB18.out G19.out HB18.out.size (fun k hk => by have := (Ox1_18.out.lt k hk).1; omega))
    have ca0_19 := G19.out.cell ca0_18 (by intro h; have := (Ox1_18.out.lt _ h.symm).1; simp only at this; omega)
    have ca1_19 := G19.out.cell ca1_18 (by intro h; have := (Ox1_18.out.lt _ h.symm).1; simp only at this; omega)
    have cx0_19 := G19.out.cell cx0_18 (by intro h; have := (Ox1_18.out.lt _ h.symm).1; simp only at this; omega)
    have cx1_19 := G19.out.cell cx1_18 (by intro h; have := (Ox1_18.out.lt _ h.symm).1; simp only at this; omega)
    clear ca0_18 ca1_18 cx0_18 cx1_18
    have Ow_19 := Lib.hid (OwnI.apart Ow_18.out (fun k hk => by have := (Ow_5.out.lt k hk).2; omega) Ox1_18.out G19.out)
    have Ox2_19 := Lib.hid (OwnI.apart2 Ox2_18.out (fun k hk => by have := (Ox1_8.out.lt k hk).2; omega) G19.out)
    have Og_19 := Lib.hid (OwnI.apart2 Og_18.out (fun k hk => by have := (Ox1_8.out.lt k hk).2; omega) G19.out)
    go_wp2_with fail
    (with_reducible refine (markInt64SB_any W8.heap.size vx2 y2 (1 + 7 * (x0_1.length : Int) + (y1.length : Int)) _ Ox2_19.out (by first | omega | (have := HLN.out; omega)) (by omega)).mono ?_)
    rintro e W20 ⟨rfl, ho, hg⟩
    have G20 := Lib.hid hg
    have Ox2_20 := Lib.hid ho
    clear ho hg
    have hs20 : W19.heap.size ≤ W20.heap.size := G20.out.size
    have HB20 := Lib.hid (Below.grown HB19.out G20.out HB19.out.size (fun k hk => by have := (Ox2_19.out.lt k hk).1; omega))
    have ca0_20 := G20.out.cell ca0_19 (by intro h; have := (Ox2_19.out.lt _ h.symm).1; simp only at this; omega)
    have ca1_20 := G20.out.cell ca1_19 (by intro h; have := (Ox2_19.out.lt _ h.symm).1; simp only at this; omega)
    have cx0_20 := G20.out.cell cx0_19 (by intro h; have := (Ox2_19.out.lt _ h.symm).1; simp only at this; omega)
    have cx1_20 := G20.out.cell cx1_19 (by intro h; have := (Ox2_19.out.lt _ h.symm).1; simp only at this; omega)
    clear ca0_19 ca1_19 cx0_19 cx1_19
    have Ow_20 := Lib.hid (OwnI.apart Ow_19.out (fun k hk => by have := (Ow_5.out.lt k hk).2; omega) Ox2_19.out G20.out)
    have Og_20 := Lib.hid (OwnI.apart2 Og_19.out (fun k hk => by have := (Ox2_9.out.lt k hk).2; omega) G20.out)
    have hmk0 : ¬ (1 + 7 * (x0_1.length : Int) + (y1.length : Int) + (y2.length : Int) < 0) := by omega
    go_wp2_with fail
    (with_reducible refine (eqInt64S_w vg vw (wgR a0_0 x0_1 y1 y2 a3) _ (RowW.of_ownI Og_20.out) (RowW.of_ownI Ow_20.out) (by have := HLN.out; omega)).mono ?_)
    rintro e W21 ⟨rfl, n21, hn⟩
    have B21 := Lib.hid (show Below W20.heap.size W20 W21 from hn ▸ below_drewN (Below.refl _ _) n21)
    have HB21 := Lib.hid (HB20.out.trans (B21.out.mono HB20.out.size))
    have hs21 : W20.heap.size ≤ W21.heap.size := B21.out.size
    have ca0_21 := cellK1 ca0_20 B21.out
    have ca1_21 := cellK1 ca1_20 B21.out
    have cx0_21 := cellK1 cx0_20 B21.out
    have cx1_21 := cellK1 cx1_20 B21.out
    clear ca0_20 ca1_20 cx0_20 cx1_20
    have Ow_21 := Lib.hid (Ow_20.out.below B21.out)
    have Og_21 := Lib.hid (Og_20.out.below B21.out)
    clear hn
    try clear hd
    go_wp2_with fail
    (with_reducible refine (markInt64S_any W9.heap.size vg (wgR a0_0 x0_1 y1 y2 a3) 1 _ Og_21.out (by first | omega | (have := HLN.out; omega)) (by omega)).mono ?_)
    rintro e W22 ⟨rfl, ho, hg⟩
    have G22 := Lib.hid hg
    have Og_22 := Lib.hid ho
    clear ho hg
    have hs22 : W21.heap.size ≤ W22.heap.size := G22.out.size
    have HB22 := Lib.hid (Below.grown HB21.out G22.out HB21.out.size (fun k hk => by have := (Og_21.out.lt k hk).1; omega))
    have ca0_22 := G22.out.cell ca0_21 (by intro h; have := (Og_21.out.lt _ h.symm).1; simp only at this; omega)
    have ca1_22 := G22.out.cell ca1_21 (by intro h; have := (Og_21.out.lt _ h.symm).1; simp only at this; omega)
    have cx0_22 := G22.out.cell cx0_21 (by intro h; have := (Og_21.out.lt _ h.symm).1; simp only at this; omega)
    have cx1_22 := G22.out.cell cx1_21 (by intro h; have := (Og_21.out.lt _ h.symm).1; simp only at this; omega)
    clear ca0_21 ca1_21 cx0_21 cx1_21
    have Ow_22 := Lib.hid (OwnI.apart Ow_21.out (fun k hk => by have := (Ow_5.out.lt k hk).2; omega) Og_21.out G22.out)
    go_wp2_with fail
    (with_reducible refine (heldInt64S_any W9.heap.size vg (wgR a0_0 x0_1 y1 y2 a3).length 1 _ Og_22.out (by have := HLN.out; omega) (by omega)).mono ?_)
    rintro e w' ⟨rfl, rfl⟩
    have hm0 : ¬ (1 + ((wgR a0_0 x0_1 y1 y2 a3).length : Int) < 0) := by omega
    go_wp2_with fail
    (with_reducible refine (toMine_any a0_0 A0_1 C0_1 x0_1 _ (RW.out.below HB22.out) HL0.out).mono ?_)
    rintro e W23 ⟨gh, rfl, hk, hggh, hd⟩
    have B23 := Lib.hid (show Below W22.heap.size W22 W23 from hd)
    have HB23 := Lib.hid (HB22.out.trans (B23.out.mono HB22.out.size))
    have hs23 : W22.heap.size ≤ W23.heap.size := B23.out.size
    have ca0_23 := cellK1 ca0_22 B23.out
    have ca1_23 := cellK1 ca1_22 B23.out
    have cx0_23 := cellK1 cx0_22 B23.out
    have cx1_23 := cellK1 cx1_22 B23.out
    clear ca0_22 ca1_22 cx0_22 cx1_22
    have Ow_23 := Lib.hid (Ow_22.out.below B23.out)
    have Og_23 := Lib.hid (Og_22.out.below B23.out)
    have Kgh_23 := Lib.hid hk
    clear hk
    try clear hd
    go_wp2_with fail
    (with_reducible refine (toInt64S_ownI _ y1 _ (HY1.out.below HB23.out) hl1).mono ?_)
    rintro e W24 ⟨vh1, rfl, ho, hr, hd⟩
    have B24 := Lib.hid (show Below W23.heap.size W23 W24 from hd)
    have HB24 := Lib.hid (HB23.out.trans (B24.out.mono HB23.out.size))
    have hs24 : W23.heap.size ≤ W24.heap.size := B24.out.size
    have ca0_24 := cellK1 ca0_23 B24.out
    have ca1_24 := cellK1 ca1_23 B24.out
    have cx0_24 := cellK1 cx0_23 B24.out
    have cx1_24 := cellK1 cx1_23 B24.out
    clear ca0_23 ca1_23 cx0_23 cx1_23
    have Ow_24 := Lib.hid (Ow_23.out.below B24.out)
    have Og_24 := Lib.hid (Og_23.out.below B24.out)
    have Kgh_24 := Lib.hid (Kgh_23.out.below B24.out Kgh_23.out.lt)
    have Oh1_24 := Lib.hid ho
    clear ho hr
    try clear hd
    go_wp2_with fail
    (with_reducible refine (toInt64S_ownI _ y2 _ (HY2.out.below HB24.out) hl2).mono ?_)
    rintro e W25 ⟨vh2, rfl, ho, hr, hd⟩
    have B25 := Lib.hid (show Below W24.heap.size W24 W25 from hd)
    have HB25 := Lib.hid (HB24.out.trans (B25.out.mono HB24.out.size))
    have hs25 : W24.heap.size ≤ W25.heap.size := B25.out.size
    have ca0_25 := cellK1 ca0_24 B25.out
    have ca1_25 := cellK1 ca1_24 B25.out
    have cx0_25 := cellK1 cx0_24 B25.out
    have cx1_25 := cellK1 cx1_24 B25.out
    clear ca0_24 ca1_24 cx0_24 cx1_24
    have Ow_25 := Lib.hid (Ow_24.out.below B25.out)
    have Og_25 := Lib.hid (Og_24.out.below B25.out)
    have Oh1_25 := Lib.hid (Oh1_24.out.below B25.out)
    have Kgh_25 := Lib.hid (Kgh_24.out.below B25.out Kgh_24.out.lt)
    have Oh2_25 := Lib.hid ho
    clear ho hr
    try clear hd
    go_wp2_with fail
    (with_reducible refine (iWarmAirways_any a0_0 (some ⟨gh, 0, none⟩) x0_1.length x0_1 _ y1 _ y2 a3 _ Kgh_25.out.awr S0.out HL0.out (row_ownI Oh1_25.out) hl1 (row_ownI Oh2_25.out) hl2).mono ?_)
    rintro e W26 ⟨vh, rfl, ho, hd⟩
    have B26 := Lib.hid (show Below W25.heap.size W25 W26 from hd)
    have HB26 := Lib.hid (HB25.out.trans (B26.out.mono HB25.out.size))
    have hs26 : W25.heap.size ≤ W26.heap.size := B26.out.size
    have ca0_26 := cellK1 ca0_25 B26.out
    have ca1_26 := cellK1 ca1_25 B26.out
    have cx0_26 := cellK1 cx0_25 B26.out
    have cx1_26 := cellK1 cx1_25 B26.out
    clear ca0_25 ca1_25 cx0_25 cx1_25
    have Ow_26 := Lib.hid (Ow_25.out.below B26.out)
    have Og_26 := Lib.hid (Og_25.out.below B26.out)
    have Oh1_26 := Lib.hid (Oh1_25.out.below B26.out)
    have Oh2_26 := Lib.hid (Oh2_25.out.below B26.out)
    have Kgh_26 := Lib.hid (Kgh_25.out.below B26.out Kgh_25.out.lt)
    have Oh_26 := Lib.hid ho
    clear ho
    try clear hd
    go_wp2_with fail
    (with_reducible refine (eqInt64S_w vh vw (wgR a0_0 x0_1 y1 y2 a3) _ (RowW.of_ownI Oh_26.out) (RowW.of_ownI Ow_26.out) (by have := HLN.out; omega)).mono ?_)
    rintro e W27 ⟨rfl, n27, hn⟩
    have B27 := Lib.hid (show Below W26.heap.size W26 W27 from hn ▸ below_drewN (Below.refl _ _) n27)
    have HB27 := Lib.hid (HB26.out.trans (B27.out.mono HB26.out.size))
    have hs27 : W26.heap.size ≤ W27.heap.size := B27.out.size
    have ca0_27 := cellK1 ca0_26 B27.out
    have ca1_27 := cellK1 ca1_26 B27.out
    have cx0_27 := cellK1 cx0_26 B27.out
    have cx1_27 := cellK1 cx1_26 B27.out
    clear ca0_26 ca1_26 cx0_26 cx1_26
    have Ow_27 := Lib.hid (Ow_26.out.below B27.out)
    have Og_27 := Lib.hid (Og_26.out.below B27.out)
    have Oh1_27 := Lib.hid (Oh1_26.out.below B27.out)
    have Oh2_27 := Lib.hid (Oh2_26.out.below B27.out)
    have Oh_27 := Lib.hid (Oh_26.out.below B27.out)
    have Kgh_27 := Lib.hid (Kgh_26.out.below B27.out Kgh_26.out.lt)
    clear hn
    try clear hd
    go_wp2_with fail
    (with_reducible refine (heldInt64S_any W9.heap.size vg (wgR a0_0 x0_1 y1 y2 a3).length 1 _ Og_27.out (by have := HLN.out; omega) (by omega)).mono ?_)
    rintro e w' ⟨rfl, rfl⟩
    go_wp2
    go_ret
    exact ⟨rfl, HB27.out⟩

set_option maxHeartbeats 1000000 in
set_option maxRecDepth 100000 in
theorem contract (H : Type) (enc : TypeId × Value → H) (W : World) (base : Nat) (args : Array Value) (ds gs : List (DataW H)) (before : List MemPlace)
    (hval : ∀ (j : Nat) t v, Try.f4.params[j]? = some t → args[j]? = some v → Value.okWide Try.prog W .any base t v)
    (hW : DataW.Whole enc Try.prog Try.f4.params.toList Rows.fnExactWarmAirwaysSpec.vars false W args.toList ds gs before) :
    Calls Try.prog 4 args W fun e W' => ∃ v, e = .returned v ∧ Rows.fnExactWarmAirwaysSpec.post enc Try.prog Try.f4 false true false false W args v W' := by
  have hW' := hW
  obtain ⟨p, q, hA0, hV, rfl, hfz, hnd⟩ := hW
  have hA : DataW.TrodAll enc Try.prog W 0 (fun _ => true) true Try.f4.params.toList args.toList ds p := hA0
  rw [Try.params4] at hA hval
  obtain ⟨v0, vs0, d0, ds0, p0, q0, hargs, rfl, rfl, h0, r0⟩ := trodAll_cons hA
  obtain ⟨v1, vs1, d1, ds1, p1, q1, rfl, rfl, rfl, h1, r1⟩ := trodAll_cons r0
  obtain ⟨v2, vs2, d2, ds2, p2, q2, rfl, rfl, rfl, h2, r2⟩ := trodAll_cons r1
  obtain ⟨v3, vs3, d3, ds3, p3, q3, rfl, rfl, rfl, h3, r3⟩ := trodAll_cons r2
  obtain ⟨rfl, rfl, rfl⟩ := trodAll_nil r3
  obtain rfl : args = #[v0, v1, v2, v3] := by cases args; simp_all
  obtain ⟨rfl, rfl⟩ := trodVars_none hV
  have k0 := h0
  have lt0 : ∀ x ∈ p0, x.block < W.heap.size := by obtain ⟨m, hm⟩ := k0; exact DataW.trod_lt m _ _ _ hm
  obtain ⟨l0, rfl, ll0, hf0⟩ := open_fields Try.underlying24 (by kernel_rfl) (by kernel_rfl) (hval 0 24 v0 rfl rfl) h0
  obtain ⟨c0_0, n0_0, y0_0, e0_0, t0_0⟩ := hf0 0 _ rfl
  obtain ⟨a0_0, q0_0, _, w0_0⟩ := DataW.trod_int Try.underlying2 t0_0
  obtain ⟨c0_1, n0_1, y0_1, e0_1, t0_1⟩ := hf0 1 _ rfl
  obtain ⟨A0_1, C0_1, x0_1, q0_1, l0_1, r0_1, f0_1⟩ := open_aws t0_1
  obtain rfl := List.cons.inj q0_0 |>.1
  obtain rfl := List.cons.inj q0_1 |>.1
  obtain rfl : l0 = [.int .i64 a0_0, .slice A0_1 x0_1.length C0_1] := by
    match l0, ll0, e0_0, e0_1 with
    | [x0, x1], _, z0, z1 => simp at z0 z1; simp [z0, z1]
  obtain ⟨a1, len1, cap1, rfl⟩ := okWide_slice Try.underlying25 (hval 1 25 v1 rfl rfl)
  have k1 := h1
  have lt1 : ∀ x ∈ p1, x.block < W.heap.size := by obtain ⟨m, hm⟩ := k1; exact DataW.trod_lt m _ _ _ hm
  obtain ⟨z1, w1⟩ : ∃ zs, IsRow .i64 W a1 len1 cap1 zs := by
    obtain ⟨fuel, hf⟩ := h1
    rcases open_ints Try.underlying25 Try.underlying2 (by kernel_rfl) hf with ⟨hcs, _⟩ | ⟨x, l, c, zs, hcs, _, hl, hm, hz, _, hcell, hwz⟩
    · simp [Value.cells] at hcs
      obtain ⟨rfl, rfl, rfl⟩ := hcs
      exact ⟨[], .inl ⟨rfl, rfl, rfl, rfl⟩⟩
    · simp [Value.cells] at hcs
      obtain ⟨rfl, rfl, rfl⟩ := hcs
      exact ⟨zs, .inr ⟨_, rfl, hl, hm, by simpa using hz, hcell, hwz⟩⟩
  obtain ⟨a2, len2, cap2, rfl⟩ := okWide_slice Try.underlying25 (hval 2 25 v2 rfl rfl)
  have k2 := h2
  have lt2 : ∀ x ∈ p2, x.block < W.heap.size := by obtain ⟨m, hm⟩ := k2; exact DataW.trod_lt m _ _ _ hm
  obtain ⟨z2, w2⟩ : ∃ zs, IsRow .i64 W a2 len2 cap2 zs := by
    obtain ⟨fuel, hf⟩ := h2
    rcases open_ints Try.underlying25 Try.underlying2 (by kernel_rfl) hf with ⟨hcs, _⟩ | ⟨x, l, c, zs, hcs, _, hl, hm, hz, _, hcell, hwz⟩
    · simp [Value.cells] at hcs
      obtain ⟨rfl, rfl, rfl⟩ := hcs
      exact ⟨[], .inl ⟨rfl, rfl, rfl, rfl⟩⟩
    · simp [Value.cells] at hcs
      obtain ⟨rfl, rfl, rfl⟩ := hcs
      exact ⟨zs, .inr ⟨_, rfl, hl, hm, by simpa using hz, hcell, hwz⟩⟩
  obtain ⟨a3, rfl, rfl, rfl, w3⟩ := open_int Try.underlying2 (hval 3 2 v3 rfl rfl) h3
  clear hA0
  refine (walk W a0_0 w0_0 A0_1 C0_1 x0_1 l0_1 r0_1 f0_1 a1 len1 cap1 z1 w1 a2 len2 cap2 z2 w2 a3 w3).mono fun e W' ⟨he, bel⟩ => ?_
  subst he
  exact ⟨_, rfl, _, _, _, [], _, [], hW', trodAll_mk1 (shut_bool Try.underlying4 _), (trodAll_cons_mk (Below.trod laidOut (by kernel_rfl) (of_decide_eq_true (by kernel_rfl)) k0 bel lt0) (trodAll_cons_mk (Below.trod laidOut (by kernel_rfl) (of_decide_eq_true (by kernel_rfl)) k1 bel lt1) (trodAll_cons_mk (Below.trod laidOut (by kernel_rfl) (of_decide_eq_true (by kernel_rfl)) k2 bel lt2) (trodAll_cons_mk (shut_int Try.underlying2 w3) trodAll_mk0)))), rfl, bel.frame _, fun h => by cases h⟩

set_option maxRecDepth 100000 in
theorem lifted (os : Os) (started : os.Started) (H : Type) (enc : TypeId × Value → H) :
    ReturnsInHanded {} Try.checked os 4 .any (Rows.fnExactWarmAirwaysSpec.pre6 enc Try.prog Try.f4 Rows.fnExactWarmAirwaysRow.domain false) (Rows.fnExactWarmAirwaysSpec.post enc Try.prog Try.f4 false true false false) := by
  refine returnsInHanded_of_change (C := Try.checked) own started (by kernel_rfl) Try.func4
    (ChangeSpec.witness6 (enc := enc) (C := Try.checked) false ⟨#[], #[.agg #[.int .i64 0, .slice none 0 0], .slice none 0 0, .slice none 0 0, .int .i64 0], []⟩ 8 (by kernel_rfl) (by kernel_rfl) (by kernel_rfl) (by kernel_rfl)) ?_
  intro W base args ds gs before hval hW hcnd _
  exact contract H enc W base args ds gs before hval hW

set_option maxHeartbeats 4000000 in
theorem facts : joinedFacts Try.pinned.checked.prog 4 Try.f4 Rows.fnExactWarmAirwaysSpec Rows.fnExactWarmAirwaysRow = true := by
  unfold joinedFacts
  simp only [Bool.and_eq_true]
  repeat' apply And.intro
  all_goals first
    | (with_reducible exact fxMay)
    | (rw [fxLifts]; as_aux_lemma => kernel_rfl)
    | (rw [fxMake]; as_aux_lemma => kernel_rfl)
    | (as_aux_lemma => kernel_rfl)
theorem proved : Rows.FnExactWarmAirwaysSaid :=
  OpenClaim.holds_of_wide 4 Try.f4 rfl rfl rfl rfl rfl rfl rfl ⟨rfl, rfl, rfl, rfl, rfl⟩ rfl rfl rfl rfl rfl (by kernel_rfl) Try.func4 facts
    (of_decide_eq_true (by kernel_rfl)) (by unfold Func.isWrapper; first | (rw [if_pos (by decide +kernel)]; kernel_rfl) | (rw [if_neg (by decide +kernel)]; exact ⟨rfl, rfl⟩))
    (fun os started H enc _ => lifted os started H enc)
#print axioms proved
end Go.Proofs.Ytoojndohddellab.fnExactWarmAirways
