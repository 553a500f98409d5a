/-
  PROVED: for every input the function laws.FnExactMineText returns true and leaves its arguments as they were. Conditions: the package-level variables that the row lists hold what the program text lays (the card ties them).
-/
import Derived.Test.YtofpecgmnodflaaDoorCards
import Derived.Test.YtofpecgmnodflaaDoorTie
import Derived.Test.YtofpecgmnodflaaDoorMt
import Derived.Test.YtofpecgmnodflaaDoorGg
import Derived.WalkKit
import Derived.ProofKit
import Derived.OpenShut
import Derived.ShutString
import Derived.ChangeOld
import Derived.Below
import Derived.Carry
import Derived.Lib.SmallJoins
import Derived.ChangeArms
import Derived.Deep.DeepHandedRow
import Derived.Lib.LaidTab
import Derived.MakeChecks
import Derived.Stop.LaidErr
import Derived.Deep.DeepWitnessRowRef
import Derived.Lib.LaidIn
namespace Go.Proofs.YtofpecgmnodflaaDoor.fnExactMineText
open Go.ChangeShapes Go.WideShapes Go.ChangeAt Go.RowKit
open Go.ChangeMaps (open_string shut_string)
open Go.Joins Go.Deep
set_option linter.unusedVariables false
set_option linter.unusedSimpArgs false

theorem own : ownKnob Tryd.prog.godebug = none := by kernel_rfl
theorem laidOut : laidOutB Tryd.prog = true := by kernel_rfl
section
variable {H : Type} {enc : TypeId × Value → H} {P : Program} {w : World} {base : Nat} {spare : Nat → Bool} {held : Bool}
theorem open_fields {r : Reach} {b0 : Nat} {t : TypeId} {fs : Array Field} {v : Value} {d : DataW H} {p : List MemPlace} (hs : P.underlying t = some (.struct fs)) (hone : oneCellFields P fs = true) (hC : P.cellsOf t = fs.size)
    (hv : Value.okWide P w r b0 t v) (h : DataW.Trod enc P w base spare held t v d p) :
    ∃ l : List Value, v = .agg ⟨l⟩ ∧ l.length = fs.size ∧ ∀ (j : Nat) (f : Field), fs[j]? = some f → ∃ (c : Value) (n : Nat) (y : DataW H × List MemPlace), l[j]? = some c ∧ DataW.trod enc P w base spare held n f.type [c] = some y := by
  obtain ⟨cs, rfl, hsz⟩ := okWide_struct hs hv
  obtain ⟨l⟩ := cs
  obtain ⟨fuel, hf⟩ := h
  obtain ⟨xs, n, _, _, _, hlen, hg⟩ := DataW.trod_struct hs hf
  have hl : l.length = fs.size := by simpa using hsz.trans hC
  refine ⟨l, rfl, hl, fun j f hj => ?_⟩
  obtain ⟨o, k⟩ := hone_of hone j f hj
  have hjf : j < fs.size := (Array.getElem?_eq_some_iff.1 hj).1
  have hjl : j < l.length := by omega
  have h1 := hg j f hj
  rw [o, k] at h1
  have e : (l.drop j).take 1 = [l[j]] := by
    rw [List.drop_eq_getElem_cons hjl]; rfl
  replace h1 : DataW.trod enc P w base spare held n f.type ((l.drop j).take 1) = xs[j]? := by simpa [Value.cells] using h1
  rw [e] at h1
  have hx : xs[j]? = some (xs[j]'(by omega)) := List.getElem?_eq_getElem (by omega)
  exact ⟨l[j], _, _, List.getElem?_eq_getElem hjl, h1.trans hx⟩
end
theorem table {W : World} (h : laidMetH Tryd.prog Rows.fnExactMineTextRow.laid W) : Pow W := by
  rw [Go.MakeChecks.laidMetH_plain _ _ _ (by kernel_rfl)] at h
  unfold Pow
  exact Lib.tabIs_of_head (rest := []) gTab gTabType Tryd.underlying145 Tryd.underlying69 cellsTabE cellsTab h.tail.tail

theorem walk (w : World) (a0_0 : Int) (w0_0 : (Lit.int .i64 a0_0).wf = true) (A0_1 : Option Addr) (C0_1 : Nat) (x0_1 : List Aw) (l0_1 : x0_1.length ≤ maxLen) (r0_1 : AwR w A0_1 x0_1) (f0_1 : ∀ a ∈ x0_1, a.fits) (hL : laidMetH Tryd.prog Rows.fnExactMineTextRow.laid w) :
    Calls Tryd.prog 3 #[.agg #[.int .i64 a0_0, .slice A0_1 x0_1.length C0_1]] w fun e w' => e = .returned (.bool true) ∧ Below w.heap.size w w' := by
  have HTB := Lib.hid (table hL)
  clear hL
  have hB0 : Below w.heap.size w (w.alloc (.cells #[.int .i64 a0_0, .slice A0_1 x0_1.length C0_1] 24)) := (by repeat (first | (with_reducible exact Below.refl _ _) | (with_reducible refine below_drewN' ?_ _) | (with_reducible refine Below.alloc ?_ (by simp <;> omega) _) | (with_reducible refine Below.setCell ?_ (by simp) _)))
  have R0 := Lib.hid (r0_1.below hB0)
  have S0 := Lib.hid (fun a ha => (f0_1 a ha).1)
  have HLL0 := Lib.hid l0_1
  clear hB0 r0_1
  by_cases hs : szL 1048576 x0_1 < 0
  · go_enter Tryd.func3, Tryd.ntmps3
    go_wp2_with fail
    (with_reducible refine (szMine_any a0_0 A0_1 C0_1 x0_1 (1048576) _ (R0.out.below (Below.refl _ (w.alloc (.cells #[.int .i64 a0_0, .slice A0_1 x0_1.length C0_1] 24)))) S0.out HLL0.out (by omega)).mono ?_)
    rintro e w1 ⟨rfl, hd1⟩
    have hb1 := hd1
    obtain ⟨hc1, hf1⟩ := bcell hb1
    have hz1 : w.heap.size < w1.heap.size := Nat.lt_of_lt_of_le (by first | (simp; done) | (simp; omega)) hb1.size
    clear hd1
    go_wp2
    go_ret
    exact ⟨rfl, (show Below w.heap.size w w1 from (below_box _ _).trans (hb1.mono (by simp)))⟩
  · have HL0 := Lib.hid (show x0_1.length ≤ 1048576 from by have := (szL_bd (by omega) (Int.not_lt.1 hs)).1; omega)
    go_enter Tryd.func3, Tryd.ntmps3
    go_wp2_with fail
    (with_reducible refine (szMine_any a0_0 A0_1 C0_1 x0_1 (1048576) _ (R0.out.below (Below.refl _ (w.alloc (.cells #[.int .i64 a0_0, .slice A0_1 x0_1.length C0_1] 24)))) S0.out HLL0.out (by omega)).mono ?_)
    rintro e w1 ⟨rfl, hd1⟩
    have hb1 := hd1
    obtain ⟨hc1, hf1⟩ := bcell hb1
    have hz1 : w.heap.size < w1.heap.size := Nat.lt_of_lt_of_le (by first | (simp; done) | (simp; omega)) hb1.size
    clear hd1
    go_wp2_with fail
    (with_reducible refine (toMine_any a0_0 A0_1 C0_1 x0_1 _ (R0.out.below hb1) HL0.out).mono ?_)
    rintro e w2 ⟨g2, rfl, hB2, hg2, hd2⟩
    have hb2 := hb1.trans (hd2.mono hb1.size)
    obtain ⟨hc2, hf2⟩ := bcell hb2
    have hz2 : w.heap.size < w2.heap.size := Nat.lt_of_lt_of_le (by first | (simp; done) | (simp; omega)) hb2.size
    have HB2 := Lib.hid hB2
    have HG2 := Lib.hid hg2
    clear hB2 hg2
    have AA2 := Lib.hid HB2.out.awr
    clear hd2
    go_wp2_with fail
    (with_reducible refine (sMineText_any a0_0 (some ⟨g2, 0, none⟩) x0_1.length x0_1 _ AA2.out S0.out HL0.out).mono ?_)
    rintro e w3 ⟨rfl, hd3⟩
    have hb3 := hb2.trans (hd3.mono hb2.size)
    obtain ⟨hc3, hf3⟩ := bcell hb3
    have hz3 : w.heap.size < w3.heap.size := Nat.lt_of_lt_of_le (by first | (simp; done) | (simp; omega)) hb3.size
    clear hd3
    go_wp2_with fail
    (with_reducible refine (toMine_any a0_0 A0_1 C0_1 x0_1 _ (R0.out.below hb3) HL0.out).mono ?_)
    rintro e w4 ⟨g4, rfl, hB4, hg4, hd4⟩
    have hb4 := hb3.trans (hd4.mono hb3.size)
    obtain ⟨hc4, hf4⟩ := bcell hb4
    have hz4 : w.heap.size < w4.heap.size := Nat.lt_of_lt_of_le (by first | (simp; done) | (simp; omega)) hb4.size
    have HB4 := Lib.hid hB4
    have HG4 := Lib.hid hg4
    clear hB4 hg4
    have AA4 := Lib.hid (HB4.out.awr.below (below_box _ (.cells #[.int .i64 a0_0, .slice (some ⟨g4, 0, none⟩) x0_1.length x0_1.length] 29)))
    have hx4 := Below.alloc hb4 hb4.size (.cells #[.int .i64 a0_0, .slice (some ⟨g4, 0, none⟩) x0_1.length x0_1.length] 29)
    clear hd4
    go_wp2_with fail
    (with_reducible refine (iMineText_any a0_0 (some ⟨g4, 0, none⟩) x0_1.length x0_1 _ AA4.out S0.out HL0.out (HTB.out.below ((below_box _ _).trans (hx4.mono (by simp))))).mono ?_)
    rintro e w5 ⟨rfl, hd5⟩
    have hb5 := hx4.trans (hd5.mono hx4.size)
    obtain ⟨hc5, hf5⟩ := bcell hb5
    have hz5 : w.heap.size < w5.heap.size := Nat.lt_of_lt_of_le (by first | (simp; done) | (simp; omega)) hb5.size
    have hb5_1 := (Below.refl (w4.alloc (.cells #[.int .i64 a0_0, .slice (some ⟨g4, 0, none⟩) x0_1.length x0_1.length] 29)).heap.size (w4.alloc (.cells #[.int .i64 a0_0, .slice (some ⟨g4, 0, none⟩) x0_1.length x0_1.length] 29))).trans (hd5.mono (Below.refl (w4.alloc (.cells #[.int .i64 a0_0, .slice (some ⟨g4, 0, none⟩) x0_1.length x0_1.length] 29)).heap.size (w4.alloc (.cells #[.int .i64 a0_0, .slice (some ⟨g4, 0, none⟩) x0_1.length x0_1.length] 29))).size)
    obtain ⟨hc5_1, hf5_1⟩ := bcell hb5_1
    have hz5_1 : w4.heap.size < w5.heap.size := Nat.lt_of_lt_of_le (by first | (simp; done) | (simp; omega)) hb5_1.size
    clear hd5
    go_wp2
    have hS00 : ((w5.cell? ⟨w4.heap.size, 0, none⟩ = some (.int .i64 a0_0) ∧ w5.cell? ⟨w4.heap.size, 1, none⟩ = some (.slice (some ⟨g4, 0, none⟩) x0_1.length x0_1.length)) ∧ (w5.cell? ⟨w.heap.size, 0, none⟩ = some (.int .i64 a0_0) ∧ w5.cell? ⟨w.heap.size, 1, none⟩ = some (.slice A0_1 x0_1.length C0_1))) ∧ Below w5.heap.size w5 w5 := ⟨⟨⟨by simp [hc5_1, hz5_1], by simp [hc5_1, hz5_1]⟩, by simp [hc5], by simp [hc5]⟩, Below.refl _ _⟩
    refine wp_region_held (S := fun w' => ((w'.cell? ⟨w4.heap.size, 0, none⟩ = some (.int .i64 a0_0) ∧ w'.cell? ⟨w4.heap.size, 1, none⟩ = some (.slice (some ⟨g4, 0, none⟩) x0_1.length x0_1.length)) ∧ (w'.cell? ⟨w.heap.size, 0, none⟩ = some (.int .i64 a0_0) ∧ w'.cell? ⟨w.heap.size, 1, none⟩ = some (.slice A0_1 x0_1.length C0_1))) ∧ Below w5.heap.size w5 w') (by kernel_rfl) ?_
    try (change wpAnyH _ _ _ _ _ _ _ _ (World.drew _))
    have hS0 := (show ((w5.drew.cell? ⟨w4.heap.size, 0, none⟩ = some (.int .i64 a0_0) ∧ w5.drew.cell? ⟨w4.heap.size, 1, none⟩ = some (.slice (some ⟨g4, 0, none⟩) x0_1.length x0_1.length)) ∧ (w5.drew.cell? ⟨w.heap.size, 0, none⟩ = some (.int .i64 a0_0) ∧ w5.drew.cell? ⟨w.heap.size, 1, none⟩ = some (.slice A0_1 x0_1.length C0_1))) ∧ Below w5.heap.size w5 w5.drew from ⟨⟨⟨cellK hS00.1.1.1 (Below.drew (Below.refl _ _)), cellK hS00.1.1.2 (Below.drew (Below.refl _ _))⟩, cellK hS00.1.2.1 (Below.drew (Below.refl _ _)), cellK hS00.1.2.2 (Below.drew (Below.refl _ _))⟩, Below.drew (Below.refl _ _)⟩)
    refine gTake 0 (v := ?_) rfl (by kernel_rfl) (by kernel_rfl) (by kernel_rfl) (fun _ _ _ h => h) (by kernel_rfl) ?_ hS0 ?_
    rotate_left
    · (intro W hW; have q0 := hW.1.1.1; have q1 := hW.1.1.2; have q2 := hW.1.2.1; have q3 := hW.1.2.2; clear hW; go_simp; try with_reducible rfl)
    refine gTake 1 (v := ?_) rfl (by kernel_rfl) (by kernel_rfl) (by kernel_rfl) (fun _ _ _ h => h) (by kernel_rfl) ?_ hS0 ?_
    rotate_left
    · (intro W hW; have q0 := hW.1.1.1; have q1 := hW.1.1.2; have q2 := hW.1.2.1; have q3 := hW.1.2.2; clear hW; go_simp; try with_reducible rfl)
    refine gOne 2 rfl (by kernel_rfl) (by kernel_rfl) (fun K hK => ?_)
    go_simp
    go_at_call 8
    (with_reducible refine (toMine_any a0_0 A0_1 C0_1 x0_1 _ (R0.out.below (hb5.trans (hS0.2.mono hb5.size))) HL0.out).mono ?_)
    rintro e w6 ⟨g6, rfl, hB6, hg6, hd6⟩
    have HB6 := Lib.hid hB6
    clear hB6 hg6
    try go_simp
    have hS1 := (show ((w6.cell? ⟨w4.heap.size, 0, none⟩ = some (.int .i64 a0_0) ∧ w6.cell? ⟨w4.heap.size, 1, none⟩ = some (.slice (some ⟨g4, 0, none⟩) x0_1.length x0_1.length)) ∧ (w6.cell? ⟨w.heap.size, 0, none⟩ = some (.int .i64 a0_0) ∧ w6.cell? ⟨w.heap.size, 1, none⟩ = some (.slice A0_1 x0_1.length C0_1))) ∧ Below w5.heap.size w5 w6 from ⟨⟨⟨cellK hS0.1.1.1 hd6, cellK hS0.1.1.2 hd6⟩, cellK hS0.1.2.1 hd6, cellK hS0.1.2.2 hd6⟩, hS0.2.trans (hd6.mono hS0.2.size)⟩)
    refine hK _ _ hS1 ?_
    clear hK K
    refine gOne 3 rfl (by kernel_rfl) (by kernel_rfl) (fun K hK => ?_)
    go_simp
    go_at_call 10
    (with_reducible refine (eqMine_same a0_0 (some ⟨g4, 0, none⟩) (some ⟨g6, 0, none⟩) x0_1.length x0_1.length x0_1 _ (AA4.out.below (hb5_1.trans (hS1.2.mono hb5_1.size))) HB6.out.awr HL0.out).mono ?_)
    rintro e w7 ⟨rfl, hd7⟩
    try go_simp
    have hS2 := (show ((w7.cell? ⟨w4.heap.size, 0, none⟩ = some (.int .i64 a0_0) ∧ w7.cell? ⟨w4.heap.size, 1, none⟩ = some (.slice (some ⟨g4, 0, none⟩) x0_1.length x0_1.length)) ∧ (w7.cell? ⟨w.heap.size, 0, none⟩ = some (.int .i64 a0_0) ∧ w7.cell? ⟨w.heap.size, 1, none⟩ = some (.slice A0_1 x0_1.length C0_1))) ∧ Below w5.heap.size w5 w7 from ⟨⟨⟨cellK hS1.1.1.1 hd7, cellK hS1.1.1.2 hd7⟩, cellK hS1.1.2.1 hd7, cellK hS1.1.2.2 hd7⟩, hS1.2.trans (hd7.mono hS1.2.size)⟩)
    refine hK _ _ hS2 ?_
    clear hK K
    refine gTake 4 (v := ?_) rfl (by kernel_rfl) (by kernel_rfl) (by kernel_rfl) (fun _ _ _ h => h) (by kernel_rfl) ?_ hS2 ?_
    rotate_left
    · (intro W hW; clear hW; go_simp; try with_reducible rfl)
    refine wpAnyH_done (by kernel_rfl) ?_ _
    go_simp
    go_wp2
    go_ret
    exact ⟨rfl, (below_box _ _).trans ((hb5.trans (hS2.2.mono hb5.size)).mono (by simp))⟩

set_option maxRecDepth 100000 in
theorem contract (H : Type) (enc : TypeId × Value → H) (W : World) (base : Nat) (args : Array Value) (ds gs : List (DataW H)) (before : List MemPlace)
    (hval : ∀ (j : Nat) t v, Tryd.f3.params[j]? = some t → args[j]? = some v → Value.okWide Tryd.prog W .any base t v)
    (hW : DataW.Whole enc Tryd.prog Tryd.f3.params.toList Rows.fnExactMineTextSpec.vars false W args.toList ds gs before) (hL : laidMetH Tryd.prog Rows.fnExactMineTextRow.laid W) :
    Calls Tryd.prog 3 args W fun e W' => ∃ v, e = .returned v ∧ Rows.fnExactMineTextSpec.post enc Tryd.prog Tryd.f3 false true false false W args v W' := by
  have hW' := hW
  obtain ⟨p, q, hA0, hV, rfl, hfz, hnd⟩ := hW
  have hA : DataW.TrodAll enc Tryd.prog W 0 (fun _ => true) true Tryd.f3.params.toList args.toList ds p := hA0
  rw [Tryd.params3] at hA hval
  obtain ⟨v0, vs0, d0, ds0, p0, q0, hargs, rfl, rfl, h0, r0⟩ := trodAll_cons hA
  obtain ⟨rfl, rfl, rfl⟩ := trodAll_nil r0
  obtain rfl : args = #[v0] := by cases args; simp_all
  obtain ⟨rfl, rfl⟩ := trodVars_none hV
  have k0 := h0
  have lt0 : ∀ x ∈ p0, x.block < W.heap.size := by obtain ⟨m, hm⟩ := k0; exact DataW.trod_lt m _ _ _ hm
  obtain ⟨l0, rfl, ll0, hf0⟩ := open_fields Tryd.underlying24 (by kernel_rfl) (by kernel_rfl) (hval 0 24 v0 rfl rfl) h0
  obtain ⟨c0_0, n0_0, y0_0, e0_0, t0_0⟩ := hf0 0 _ rfl
  obtain ⟨a0_0, q0_0, _, w0_0⟩ := DataW.trod_int Tryd.underlying2 t0_0
  obtain ⟨c0_1, n0_1, y0_1, e0_1, t0_1⟩ := hf0 1 _ rfl
  obtain ⟨A0_1, C0_1, x0_1, q0_1, l0_1, r0_1, f0_1⟩ := open_aws t0_1
  obtain rfl := List.cons.inj q0_0 |>.1
  obtain rfl := List.cons.inj q0_1 |>.1
  obtain rfl : l0 = [.int .i64 a0_0, .slice A0_1 x0_1.length C0_1] := by
    match l0, ll0, e0_0, e0_1 with
    | [x0, x1], _, z0, z1 => simp at z0 z1; simp [z0, z1]
  clear hA0
  refine (walk W a0_0 w0_0 A0_1 C0_1 x0_1 l0_1 r0_1 f0_1 hL).mono fun e W' ⟨he, bel⟩ => ?_
  subst he
  exact ⟨_, rfl, _, _, _, [], _, [], hW', trodAll_mk1 (shut_bool Tryd.underlying4 _), (trodAll_cons_mk (Below.trod laidOut (by kernel_rfl) (of_decide_eq_true (by kernel_rfl)) k0 bel lt0) trodAll_mk0), rfl, bel.frame _, fun h => by cases h⟩

/-- The cells of a table. -/
def flatL : DataW Unit → List Value
  | .lit (.int k n) => [.int k n]
  | .agg l => l.map fun | .lit (.int k n) => .int k n | _ => .bool false
  | _ => []
def flatD : DataW Unit → Array Value
  | .agg l => (l.flatMap flatL).toArray
  | _ => #[]
noncomputable abbrev N0 : Nat := (World.settled Tryd.prog default).heap.size
noncomputable def laidWorld (os : Os) : World :=
  { World.holding Tryd.prog os ⟨#[], #[], []⟩ with heap := ((((World.holding Tryd.prog os ⟨#[], #[], []⟩).heap.modify 6 (fun | .cells _ t frozen => .cells (flatD Rows.laid_math_bits_deBruijn32tab) t frozen | o => o)).modify 7 (fun | .cells _ t frozen => .cells (flatD Rows.laid_math_bits_deBruijn64tab) t frozen | o => o)).modify 2 (fun | .cells _ t frozen => .cells (flatD Rows.laid_internal_strconv_uint64pow10) t frozen | o => o)) }
theorem laid_met (os : Os) : laidMet Tryd.prog Rows.fnExactMineTextRow.laid ((laidWorld os).forCall (fun _ _ => 0) ⟨#[], #[.agg #[.int .i64 0, .slice none 0 0]], []⟩).memory :=
  laidMet_of_run' 8 (by kernel_rfl) (by kernel_rfl)
theorem reads (os : Os) {H : Type} (enc : TypeId × Value → H) : ∃ places, DataW.whole enc Tryd.prog ((laidWorld os).forCall (fun _ _ => 0) ⟨#[], #[.agg #[.int .i64 0, .slice none 0 0]], []⟩).memory Tryd.f3.params.toList Rows.fnExactMineTextSpec.vars false (#[.agg #[.int .i64 0, .slice none 0 0]] : Array Value).toList 8 = some ([.agg [.lit (.int .i64 0), .nil]], [], places) :=
  ⟨[], by kernel_rfl⟩
set_option maxRecDepth 100000 in
theorem lifted (os : Os) (started : os.Started) (H : Type) (enc : TypeId × Value → H) (F : Stop.Interp) :
    ReturnsInHanded {} Tryd.checked os 3 .any ((OpenSpec.ofChange Rows.fnExactMineTextSpec).preRow enc Tryd.prog Tryd.f3 Rows.fnExactMineTextRow.domain false Rows.fnExactMineTextRow.laid) (((OpenSpec.ofChange Rows.fnExactMineTextSpec).at F).post enc Tryd.prog Tryd.f3 false true false false) := by
  obtain ⟨places, hx⟩ := reads os enc
  refine returnsInHanded_of_row (C := Tryd.checked) (s := OpenSpec.ofChange Rows.fnExactMineTextSpec) own started (by kernel_rfl) Tryd.func3
    (witness_row_at (enc := enc) (C := Tryd.checked) false (laidWorld os) #[.agg #[.int .i64 0, .slice none 0 0]] rfl (by kernel_rfl) (by kernel_rfl) (by kernel_rfl)
      (OpenSpec.preRow_of_cond 8 hx (by kernel_rfl) (fun k hk => by cases hk) (by kernel_rfl) (laid_met os))) ?_
  intro W base args ds gs before hval hW _ _ _ hL hS _
  exact contract H enc W base args ds gs before hval hW hL
theorem said : Rows.FnExactMineTextSaid :=
  OpenClaim.holds_of_cond 3 Tryd.f3 rfl rfl rfl rfl rfl rfl rfl ⟨rfl, rfl, rfl, rfl, rfl⟩ rfl rfl rfl rfl rfl (by kernel_rfl) Tryd.func3 (by kernel_rfl)
    (of_decide_eq_true (by kernel_rfl)) (by unfold Func.isWrapper; first | (rw [if_pos (by decide +kernel)]; kernel_rfl) | (rw [if_neg (by decide +kernel)]; exact ⟨rfl, rfl⟩))
    (fun os started H enc _ F => by rw [OpenClaim.pre_eq_preRow]; exact lifted os started H enc F)
theorem plain (f : FuncId) (fn : Func) (hf : Tryd.pinned.checked.prog.funcNamed "loop.example/g01021/laws.FnExactMineText" = some f) (hfn : Tryd.pinned.checked.prog.funcs[f]? = some fn) :
    true = Tryd.pinned.checked.prog.looks [] ∧ ∀ (j : Nat) t, fn.params[j]? = some t → Tryd.pinned.checked.prog.wantsStandIn t = false := by
  obtain rfl : f = 3 := Option.some.inj ((show Tryd.prog.funcNamed "loop.example/g01021/laws.FnExactMineText" = some 3 by kernel_rfl).symm.trans hf) |>.symm
  obtain rfl : fn = Tryd.f3 := (Option.some.inj (Tryd.func3.symm.trans hfn)).symm
  refine ⟨by kernel_rfl, fun j t ht => ?_⟩
  rw [Tryd.params3] at ht
  have hm := Array.mem_of_getElem? ht
  simp only [List.mem_toArray, List.mem_cons, List.not_mem_nil, or_false] at hm
  obtain rfl := hm
  all_goals first | exact (show Tryd.prog.wantsStandIn 24 = false by kernel_rfl)
theorem proved : Rows.FnExactMineTextCardSaid :=
  Claim7.holds_tied_plain_at .later [] _ _ _ _ said (fun _ h => by cases h) (by kernel_rfl) (fun _ h => by cases h) fnExactMineText_row_tie rfl ⟨rfl, rfl⟩ (by kernel_rfl) rfl plain (by kernel_rfl)
#print axioms proved
end Go.Proofs.YtofpecgmnodflaaDoor.fnExactMineText
