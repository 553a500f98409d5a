/-
  PROVED: for every input the function laws.FnExactMendJoint returns true and leaves its arguments as they were. Conditions: none.
-/
import Derived.Test.YtoojndohddellaaRows
import Derived.Test.YtoojndohddellaaLc
import Derived.Test.YtoojndohddellaaFx
import Derived.WalkKit
import Derived.ProofKit
import Derived.OpenShut
import Derived.ShutString
import Derived.ChangeOld
import Derived.Below
import Derived.Carry
namespace Go.Proofs.Ytoojndohddellaa.fnExactMendJoint
open Go.ChangeShapes Go.WideShapes Go.ChangeAt Go.RowKit
open Go.ChangeMaps (open_string shut_string)

set_option linter.unusedVariables false
set_option linter.unusedSimpArgs false

theorem own : ownKnob Try.prog.godebug = none := by kernel_rfl
theorem laidOut : laidOutB Try.prog = true := by kernel_rfl
/-- A slice of integers that came in: nil, or a row of 'cap' cells. -/
def IsRow (k : IntKind) (w : World) (a : Option Addr) (len cap : Nat) (zs : List Int) : Prop :=
  (a = none ∧ len = 0 ∧ cap = 0 ∧ zs = []) ∨
  ∃ x, a = some x ∧ len ≤ cap ∧ cap ≤ maxLen ∧ zs.length = cap ∧ (∀ i, i < zs.length → w.cell? (x.add i) = some (.int k (zs.getD i 0))) ∧ ∀ n ∈ zs, (Lit.int k n).wf = true
theorem rowW {w : World} {a : Option Addr} {len cap : Nat} {zs : List Int} (h : IsRow .i64 w a len cap zs) : ∃ xs, xs.length = len ∧ RowW .i64 w (.slice a len cap) xs := by
  rcases h with ⟨rfl, rfl, rfl, rfl⟩ | ⟨x, rfl, hlc, hcm, hzl, hcell, hwf⟩
  · exact ⟨[], rfl, none, 0, rfl, fun j hj => absurd hj (by simp)⟩
  · have hl : (zs.take len).length = len := by rw [List.length_take]; omega
    refine ⟨zs.take len, hl, some x, cap, by rw [hl], fun j hj => ?_⟩
    rw [hl] at hj
    have h0 := hcell 0 (by omega)
    obtain ⟨b, off, sp⟩ := x
    have hsp : sp = none := by
      unfold Addr.add World.cell? at h0
      rw [if_pos rfl] at h0
      cases sp with
      | none => rfl
      | some q => cases hq : w.heap[b]? with
        | none => simp [hq] at h0
        | some o => cases o <;> simp [hq] at h0
    subst hsp
    refine ⟨b, off, rfl, ?_⟩
    have := hcell j (by omega)
    rw [List.getD_eq_getElem?_getD, List.getElem?_take, if_pos hj, ← List.getD_eq_getElem?_getD, ← this]
    unfold Addr.add
    split
    · rename_i h; subst h; rfl
    · rfl

theorem walk (w : World) (a0 : Option Addr) (len0 cap0 : Nat) (z0 : List Int) (w0 : IsRow .i64 w a0 len0 cap0 z0) (a1 : Int) (w1 : (Lit.int .i64 a1).wf = true) :
    Calls Try.prog 12 #[.slice a0 len0 cap0, .int .i64 a1] w fun e w' => e = .returned (.bool true) ∧ Below w.heap.size w w' := by
  obtain ⟨xs, rfl, hx⟩ := rowW w0
  have HX := Lib.hid hx
  clear hx w0
  by_cases hlong : 1048576 < xs.length
  · have t1 : (1048576 : Int) < (xs.length : Int) := by omega
    go_enter Try.func12, Try.ntmps12
    go_wp2
    go_ret
    exact ⟨rfl, Below.refl _ _⟩
  · have hl : xs.length ≤ 1048576 := by omega
    have t1 : ¬ (1048576 : Int) < (xs.length : Int) := by omega
    have t2 : decide ((1048576 : Int) < (xs.length : Int)) = false := decide_eq_false t1
    have hyl : (mjR xs a1).length ≤ 1048576 := mjR_len hl
    have HS := Lib.hid (fun v W hv => sMendJoint_any v xs a1 W hv hl)
    have HI := Lib.hid (fun v W hv => iMendJoint_any v xs a1 W hv hl)
    generalize mjR xs a1 = ys at *
    generalize mjB xs a1 = c at *
    go_enter Try.func12, Try.ntmps12
    go_wp2_with fail
    go_at_call 30
    (with_reducible refine (toInt64S_ownI _ xs w HX.out hl).mono ?_)
    rintro e w1 ⟨va, rfl, ho1, hr1, hd1⟩
    have B1 := Lib.hid (show Below w.heap.size w w1 from hd1)
    have HB1 := Lib.hid (show Below w.heap.size w w1 from B1.out)
    have Oa_1 := Lib.hid (show OwnI w1 w.heap.size va xs from ho1)
    have R1 := Lib.hid hr1
    clear ho1 hr1 hd1
    go_wp2_with fail
    go_at_call 39
    (with_reducible refine (HS.out _ w1 R1.out).mono ?_)
    rintro e w2 ⟨vw, rfl, ho2, hd2⟩
    have B2 := Lib.hid (show Below w1.heap.size w1 w2 from hd2)
    have HB2 := Lib.hid (show Below w.heap.size w w2 from HB1.out.trans (B2.out.mono HB1.out.size))
    have Oa_2 := Lib.hid (Oa_1.out.below B2.out)
    have Ow_2 := Lib.hid (show OwnI w2 w1.heap.size vw ys from ho2)
    clear ho2 hd2
    go_wp2_with fail
    go_at_call 30
    (with_reducible refine (toInt64S_ownI _ xs w2 (HX.out.below HB2.out) hl).mono ?_)
    rintro e w3 ⟨vx, rfl, ho3, hr3, hd3⟩
    have B3 := Lib.hid (show Below w2.heap.size w2 w3 from hd3)
    have HB3 := Lib.hid (show Below w.heap.size w w3 from HB2.out.trans (B3.out.mono HB2.out.size))
    have Oa_3 := Lib.hid (Oa_2.out.below B3.out)
    have Ow_3 := Lib.hid (Ow_2.out.below B3.out)
    have Ox_3 := Lib.hid (show OwnI w3 w2.heap.size vx xs from ho3)
    have R3 := Lib.hid hr3
    clear ho3 hr3 hd3
    go_wp2_with fail
    go_at_call 40
    (with_reducible refine (HI.out _ w3 R3.out).mono ?_)
    rintro e w4 ⟨vg, rfl, ho4, hd4⟩
    have B4 := Lib.hid (show Below w3.heap.size w3 w4 from hd4)
    have HB4 := Lib.hid (show Below w.heap.size w w4 from HB3.out.trans (B4.out.mono HB3.out.size))
    have Oa_4 := Lib.hid (Oa_3.out.below B4.out)
    have Ow_4 := Lib.hid (Ow_3.out.below B4.out)
    have Ox_4 := Lib.hid (Ox_3.out.below B4.out)
    have Og_4 := Lib.hid (show OwnI w4 w3.heap.size vg ys from ho4)
    clear ho4 hd4
    go_wp2_with fail
    go_at_call 32
    (with_reducible refine (eqInt64S_w vg vw ys w4 (RowW.of_ownI Og_4.out) (RowW.of_ownI Ow_4.out) (by omega)).mono ?_)
    rintro e w5 ⟨rfl, n5, hn5⟩
    have B5 := Lib.hid (show Below w4.heap.size w4 w5 from hn5 ▸ below_drewN (Below.refl _ _) n5)
    have HB5 := Lib.hid (show Below w.heap.size w w5 from HB4.out.trans (B5.out.mono HB4.out.size))
    have Oa_5 := Lib.hid (Oa_4.out.below B5.out)
    have Ow_5 := Lib.hid (Ow_4.out.below B5.out)
    have Ox_5 := Lib.hid (Ox_4.out.below B5.out)
    have Og_5 := Lib.hid (Og_4.out.below B5.out)
    clear hn5
    go_wp2_with fail
    go_at_call 30
    (with_reducible refine (toInt64S_ownI _ xs w5 (HX.out.below HB5.out) hl).mono ?_)
    rintro e w6 ⟨vb, rfl, ho6, hr6, hd6⟩
    have B6 := Lib.hid (show Below w5.heap.size w5 w6 from hd6)
    have HB6 := Lib.hid (show Below w.heap.size w w6 from HB5.out.trans (B6.out.mono HB5.out.size))
    have Oa_6 := Lib.hid (Oa_5.out.below B6.out)
    have Ow_6 := Lib.hid (Ow_5.out.below B6.out)
    have Ox_6 := Lib.hid (Ox_5.out.below B6.out)
    have Og_6 := Lib.hid (Og_5.out.below B6.out)
    have Ob_6 := Lib.hid (show OwnI w6 w5.heap.size vb xs from ho6)
    have R6 := Lib.hid hr6
    clear ho6 hr6 hd6
    go_wp2_with fail
    go_at_call 32
    (with_reducible refine (eqInt64S_w vx vb xs w6 (RowW.of_ownI Ox_6.out) (RowW.of_ownI Ob_6.out) (by omega)).mono ?_)
    rintro e w7 ⟨rfl, n7, hn7⟩
    have B7 := Lib.hid (show Below w6.heap.size w6 w7 from hn7 ▸ below_drewN (Below.refl _ _) n7)
    have HB7 := Lib.hid (show Below w.heap.size w w7 from HB6.out.trans (B7.out.mono HB6.out.size))
    have Oa_7 := Lib.hid (Oa_6.out.below B7.out)
    have Ow_7 := Lib.hid (Ow_6.out.below B7.out)
    have Ox_7 := Lib.hid (Ox_6.out.below B7.out)
    have Og_7 := Lib.hid (Og_6.out.below B7.out)
    have Ob_7 := Lib.hid (Ob_6.out.below B7.out)
    clear hn7
    go_wp2_with fail
    go_at_call 35
    (with_reducible refine (markInt64S_any w2.heap.size vx xs 1 w7 Ox_7.out (by omega) (by omega)).mono ?_)
    rintro e w8 ⟨rfl, ho8, hg8⟩
    have G8 := Lib.hid hg8
    have Ox_8 := Lib.hid ho8
    clear ho8 hg8
    have HB8 := Lib.hid (Below.grown (a := w) (B := w.heap.size) HB7.out G8.out HB7.out.size (fun k hk => Nat.le_trans HB2.out.size (Ox_7.out.lt k hk).1))
    have Oa_8 := Lib.hid (OwnI.apart Oa_7.out (fun k hk => (Oa_2.out.lt k hk).2) Ox_7.out G8.out)
    have Ow_8 := Lib.hid (OwnI.apart Ow_7.out (fun k hk => (Ow_2.out.lt k hk).2) Ox_7.out G8.out)
    have Og_8 := Lib.hid (OwnI.apart2 Og_7.out (fun k hk => (Ox_3.out.lt k hk).2) G8.out)
    have Ob_8 := Lib.hid (OwnI.apart2 Ob_7.out (fun k hk => (Ox_5.out.lt k hk).2) G8.out)
    have hm0 : ¬ (1 + (xs.length : Int) < 0) := by omega
    go_wp2_with fail
    go_at_call 32
    (with_reducible refine (eqInt64S_w vg vw ys w8 (RowW.of_ownI Og_8.out) (RowW.of_ownI Ow_8.out) (by omega)).mono ?_)
    rintro e w9 ⟨rfl, n9, hn9⟩
    have B9 := Lib.hid (show Below w8.heap.size w8 w9 from hn9 ▸ below_drewN (Below.refl _ _) n9)
    have HB9 := Lib.hid (show Below w.heap.size w w9 from HB8.out.trans (B9.out.mono HB8.out.size))
    have Oa_9 := Lib.hid (Oa_8.out.below B9.out)
    have Ow_9 := Lib.hid (Ow_8.out.below B9.out)
    have Ox_9 := Lib.hid (Ox_8.out.below B9.out)
    have Og_9 := Lib.hid (Og_8.out.below B9.out)
    have Ob_9 := Lib.hid (Ob_8.out.below B9.out)
    clear hn9
    go_wp2_with fail
    go_at_call 35
    (with_reducible refine (markInt64S_any w3.heap.size vg ys 1 w9 Og_9.out (by omega) (by omega)).mono ?_)
    rintro e w10 ⟨rfl, ho10, hg10⟩
    have G10 := Lib.hid hg10
    have Og_10 := Lib.hid ho10
    clear ho10 hg10
    have HB10 := Lib.hid (Below.grown (a := w) (B := w.heap.size) HB9.out G10.out HB9.out.size (fun k hk => Nat.le_trans HB3.out.size (Og_9.out.lt k hk).1))
    have Oa_10 := Lib.hid (OwnI.apart Oa_9.out (fun k hk => (Oa_3.out.lt k hk).2) Og_9.out G10.out)
    have Ow_10 := Lib.hid (OwnI.apart Ow_9.out (fun k hk => (Ow_3.out.lt k hk).2) Og_9.out G10.out)
    have Ox_10 := Lib.hid (OwnI.apart Ox_9.out (fun k hk => (Ox_3.out.lt k hk).2) Og_9.out G10.out)
    have Ob_10 := Lib.hid (OwnI.apart2 Ob_9.out (fun k hk => (Og_5.out.lt k hk).2) G10.out)
    go_wp2_with fail
    go_at_call 36
    (with_reducible refine (heldInt64S_any w3.heap.size vg ys.length 1 w10 Og_10.out (by omega) (by omega)).mono ?_)
    rintro e w' ⟨rfl, rfl⟩
    have hm1 : ¬ (1 + (ys.length : Int) < 0) := by omega
    have hm2 : (1 + (ys.length : Int) != 1 + (ys.length : Int)) = false := by simp
    go_wp2_with fail
    go_at_call 30
    (with_reducible refine (toInt64S_ownI _ xs w10 (HX.out.below HB10.out) hl).mono ?_)
    rintro e w11 ⟨vc, rfl, ho11, hr11, hd11⟩
    have B11 := Lib.hid (show Below w10.heap.size w10 w11 from hd11)
    have HB11 := Lib.hid (show Below w.heap.size w w11 from HB10.out.trans (B11.out.mono HB10.out.size))
    have Oa_11 := Lib.hid (Oa_10.out.below B11.out)
    have Ow_11 := Lib.hid (Ow_10.out.below B11.out)
    have Ox_11 := Lib.hid (Ox_10.out.below B11.out)
    have Og_11 := Lib.hid (Og_10.out.below B11.out)
    have Ob_11 := Lib.hid (Ob_10.out.below B11.out)
    have Oc_11 := Lib.hid (show OwnI w11 w10.heap.size vc xs from ho11)
    have R11 := Lib.hid hr11
    clear ho11 hr11 hd11
    go_wp2_with fail
    go_at_call 40
    (with_reducible refine (HI.out _ w11 R11.out).mono ?_)
    rintro e w12 ⟨vh, rfl, ho12, hd12⟩
    have B12 := Lib.hid (show Below w11.heap.size w11 w12 from hd12)
    have HB12 := Lib.hid (show Below w.heap.size w w12 from HB11.out.trans (B12.out.mono HB11.out.size))
    have Oa_12 := Lib.hid (Oa_11.out.below B12.out)
    have Ow_12 := Lib.hid (Ow_11.out.below B12.out)
    have Ox_12 := Lib.hid (Ox_11.out.below B12.out)
    have Og_12 := Lib.hid (Og_11.out.below B12.out)
    have Ob_12 := Lib.hid (Ob_11.out.below B12.out)
    have Oc_12 := Lib.hid (Oc_11.out.below B12.out)
    have Oh_12 := Lib.hid (show OwnI w12 w11.heap.size vh ys from ho12)
    clear ho12 hd12
    go_wp2_with fail
    go_at_call 32
    (with_reducible refine (eqInt64S_w vh vw ys w12 (RowW.of_ownI Oh_12.out) (RowW.of_ownI Ow_12.out) (by omega)).mono ?_)
    rintro e w13 ⟨rfl, n13, hn13⟩
    have B13 := Lib.hid (show Below w12.heap.size w12 w13 from hn13 ▸ below_drewN (Below.refl _ _) n13)
    have HB13 := Lib.hid (show Below w.heap.size w w13 from HB12.out.trans (B13.out.mono HB12.out.size))
    have Oa_13 := Lib.hid (Oa_12.out.below B13.out)
    have Ow_13 := Lib.hid (Ow_12.out.below B13.out)
    have Ox_13 := Lib.hid (Ox_12.out.below B13.out)
    have Og_13 := Lib.hid (Og_12.out.below B13.out)
    have Ob_13 := Lib.hid (Ob_12.out.below B13.out)
    have Oc_13 := Lib.hid (Oc_12.out.below B13.out)
    have Oh_13 := Lib.hid (Oh_12.out.below B13.out)
    clear hn13
    go_wp2_with fail
    go_at_call 36
    (with_reducible refine (heldInt64S_any w3.heap.size vg ys.length 1 w13 Og_13.out (by omega) (by omega)).mono ?_)
    rintro e w' ⟨rfl, rfl⟩
    go_wp2
    go_ret
    exact ⟨rfl, HB13.out⟩

set_option maxHeartbeats 1000000 in
set_option maxRecDepth 100000 in
theorem contract (H : Type) (enc : TypeId × Value → H) (W : World) (base : Nat) (args : Array Value) (ds gs : List (DataW H)) (before : List MemPlace)
    (hval : ∀ (j : Nat) t v, Try.f12.params[j]? = some t → args[j]? = some v → Value.okWide Try.prog W .any base t v)
    (hW : DataW.Whole enc Try.prog Try.f12.params.toList Rows.fnExactMendJointSpec.vars false W args.toList ds gs before) :
    Calls Try.prog 12 args W fun e W' => ∃ v, e = .returned v ∧ Rows.fnExactMendJointSpec.post enc Try.prog Try.f12 false true false false W args v W' := by
  have hW' := hW
  obtain ⟨p, q, hA0, hV, rfl, hfz, hnd⟩ := hW
  have hA : DataW.TrodAll enc Try.prog W 0 (fun _ => true) true Try.f12.params.toList args.toList ds p := hA0
  rw [Try.params12] at hA hval
  obtain ⟨v0, vs0, d0, ds0, p0, q0, hargs, rfl, rfl, h0, r0⟩ := trodAll_cons hA
  obtain ⟨v1, vs1, d1, ds1, p1, q1, rfl, rfl, rfl, h1, r1⟩ := trodAll_cons r0
  obtain ⟨rfl, rfl, rfl⟩ := trodAll_nil r1
  obtain rfl : args = #[v0, v1] := by cases args; simp_all
  obtain ⟨rfl, rfl⟩ := trodVars_none hV
  obtain ⟨a0, len0, cap0, rfl⟩ := okWide_slice Try.underlying35 (hval 0 35 v0 rfl rfl)
  have k0 := h0
  have lt0 : ∀ x ∈ p0, x.block < W.heap.size := by obtain ⟨m, hm⟩ := k0; exact DataW.trod_lt m _ _ _ hm
  obtain ⟨z0, w0⟩ : ∃ zs, IsRow .i64 W a0 len0 cap0 zs := by
    obtain ⟨fuel, hf⟩ := h0
    rcases open_ints Try.underlying35 Try.underlying2 (by kernel_rfl) hf with ⟨hcs, _⟩ | ⟨x, l, c, zs, hcs, _, hl, hm, hz, _, hcell, hwz⟩
    · simp [Value.cells] at hcs
      obtain ⟨rfl, rfl, rfl⟩ := hcs
      exact ⟨[], .inl ⟨rfl, rfl, rfl, rfl⟩⟩
    · simp [Value.cells] at hcs
      obtain ⟨rfl, rfl, rfl⟩ := hcs
      exact ⟨zs, .inr ⟨_, rfl, hl, hm, by simpa using hz, hcell, hwz⟩⟩
  obtain ⟨a1, rfl, rfl, rfl, w1⟩ := open_int Try.underlying2 (hval 1 2 v1 rfl rfl) h1
  clear hA0
  refine (walk W a0 len0 cap0 z0 w0 a1 w1).mono fun e W' ⟨he, bel⟩ => ?_
  subst he
  exact ⟨_, rfl, _, _, _, [], _, [], hW', trodAll_mk1 (shut_bool Try.underlying4 _), (trodAll_cons_mk (Below.trod laidOut (by kernel_rfl) (of_decide_eq_true (by kernel_rfl)) k0 bel lt0) (trodAll_cons_mk (shut_int Try.underlying2 w1) trodAll_mk0)), rfl, bel.frame _, fun h => by cases h⟩

set_option maxRecDepth 100000 in
theorem lifted (os : Os) (started : os.Started) (H : Type) (enc : TypeId × Value → H) :
    ReturnsInHanded {} Try.checked os 12 .any (Rows.fnExactMendJointSpec.pre6 enc Try.prog Try.f12 Rows.fnExactMendJointRow.domain false) (Rows.fnExactMendJointSpec.post enc Try.prog Try.f12 false true false false) := by
  refine returnsInHanded_of_change (C := Try.checked) own started (by kernel_rfl) Try.func12
    (ChangeSpec.witness6 (enc := enc) (C := Try.checked) false ⟨#[], #[.slice none 0 0, .int .i64 0], []⟩ 8 (by kernel_rfl) (by kernel_rfl) (by kernel_rfl) (by kernel_rfl)) ?_
  intro W base args ds gs before hval hW hcnd _
  exact contract H enc W base args ds gs before hval hW

set_option maxHeartbeats 4000000 in
theorem facts : joinedFacts Try.pinned.checked.prog 12 Try.f12 Rows.fnExactMendJointSpec Rows.fnExactMendJointRow = true := by
  unfold joinedFacts
  simp only [Bool.and_eq_true]
  repeat' apply And.intro
  all_goals first
    | (with_reducible exact fxMay)
    | (rw [fxLifts]; as_aux_lemma => kernel_rfl)
    | (rw [fxMake]; as_aux_lemma => kernel_rfl)
    | (as_aux_lemma => kernel_rfl)
theorem proved : Rows.FnExactMendJointSaid :=
  OpenClaim.holds_of_wide 12 Try.f12 rfl rfl rfl rfl rfl rfl rfl ⟨rfl, rfl, rfl, rfl, rfl⟩ rfl rfl rfl rfl rfl (by kernel_rfl) Try.func12 facts
    (of_decide_eq_true (by kernel_rfl)) (by unfold Func.isWrapper; first | (rw [if_pos (by decide +kernel)]; kernel_rfl) | (rw [if_neg (by decide +kernel)]; exact ⟨rfl, rfl⟩))
    (fun os started H enc _ => lifted os started H enc)
#print axioms proved
end Go.Proofs.Ytoojndohddellaa.fnExactMendJoint
