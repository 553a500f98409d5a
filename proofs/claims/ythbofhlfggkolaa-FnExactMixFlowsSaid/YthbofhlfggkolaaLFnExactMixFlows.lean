/-
  PROVED: for every input the function laws.FnExactMixFlows returns true and leaves its arguments as they were. Conditions: none.
-/
import Derived.Test.YthbofhlfggkolaaRows
import Derived.Test.YthbofhlfggkolaaPm
import Derived.Test.YthbofhlfggkolaaFx
import Derived.WalkKit
import Derived.ProofKit
import Derived.OpenShut
import Derived.ShutString
import Derived.ChangeOld
import Derived.Below
import Derived.Carry
namespace Go.Proofs.Ythbofhlfggkolaa.fnExactMixFlows
open Go.ChangeShapes Go.WideShapes Go.ChangeAt Go.RowKit
open Go.ChangeMaps (open_string shut_string)

set_option linter.unusedVariables false
set_option linter.unusedSimpArgs false

theorem own : ownKnob Try.prog.godebug = none := by kernel_rfl
theorem laidOut : laidOutB Try.prog = true := by kernel_rfl
/-- A slice of integers that came in: nil, or a row of 'cap' cells. -/
def IsRow (k : IntKind) (w : World) (a : Option Addr) (len cap : Nat) (zs : List Int) : Prop :=
  (a = none ∧ len = 0 ∧ cap = 0 ∧ zs = []) ∨
  ∃ x, a = some x ∧ len ≤ cap ∧ cap ≤ maxLen ∧ zs.length = cap ∧ (∀ i, i < zs.length → w.cell? (x.add i) = some (.int k (zs.getD i 0))) ∧ ∀ n ∈ zs, (Lit.int k n).wf = true
theorem rowW {w : World} {a : Option Addr} {len cap : Nat} {zs : List Int} (h : IsRow .i64 w a len cap zs) : ∃ xs, xs.length = len ∧ RowW .i64 w (.slice a len cap) xs := by
  rcases h with ⟨rfl, rfl, rfl, rfl⟩ | ⟨x, rfl, hlc, hcm, hzl, hcell, hwf⟩
  · exact ⟨[], rfl, none, 0, rfl, fun j hj => absurd hj (by simp)⟩
  · have hl : (zs.take len).length = len := by rw [List.length_take]; omega
    refine ⟨zs.take len, hl, some x, cap, by rw [hl], fun j hj => ?_⟩
    rw [hl] at hj
    have h0 := hcell 0 (by omega)
    obtain ⟨b, off, sp⟩ := x
    have hsp : sp = none := by
      unfold Addr.add World.cell? at h0
      rw [if_pos rfl] at h0
      cases sp with
      | none => rfl
      | some q => cases hq : w.heap[b]? with
        | none => simp [hq] at h0
        | some o => cases o <;> simp [hq] at h0
    subst hsp
    refine ⟨b, off, rfl, ?_⟩
    have := hcell j (by omega)
    rw [List.getD_eq_getElem?_getD, List.getElem?_take, if_pos hj, ← List.getD_eq_getElem?_getD, ← this]
    unfold Addr.add
    split
    · rename_i h; subst h; rfl
    · rfl
set_option maxHeartbeats 4000000 in

theorem walk (w : World) (a0 : Option Addr) (len0 cap0 : Nat) (z0 : List Int) (w0 : IsRow .i64 w a0 len0 cap0 z0) (a1 : Option Addr) (len1 cap1 : Nat) (z1 : List Int) (w1 : IsRow .i64 w a1 len1 cap1 z1) :
    Calls Try.prog 7 #[.slice a0 len0 cap0, .slice a1 len1 cap1] w fun e w' => e = .returned (.bool true) ∧ Below w.heap.size w w' := by
  obtain ⟨x0, rfl, r0⟩ := rowW w0
  have HR0 := Lib.hid r0
  clear r0 w0
  obtain ⟨x1, rfl, r1⟩ := rowW w1
  have HR1 := Lib.hid r1
  clear r1 w1
  by_cases hlong0 : 1048576 < x0.length
  · have t1 : (1048576 : Int) < (x0.length : Int) := by omega
    go_enter Try.func7, Try.ntmps7
    go_wp2
    go_ret
    exact ⟨rfl, Below.refl _ _⟩
  have HL0 := Lib.hid (show x0.length ≤ 1048576 by omega)
  have t1_0 : ¬ (1048576 : Int) < (x0.length : Int) := by omega
  have t2_0 : decide ((1048576 : Int) < (x0.length : Int)) = false := decide_eq_false t1_0
  clear hlong0
  by_cases hlong1 : 1048576 < x1.length
  · have t1 : (1048576 : Int) < (x1.length : Int) := by omega
    go_enter Try.func7, Try.ntmps7
    go_wp2
    go_ret
    exact ⟨rfl, Below.refl _ _⟩
  have HL1 := Lib.hid (show x1.length ≤ 1048576 by omega)
  have t1_1 : ¬ (1048576 : Int) < (x1.length : Int) := by omega
  have t2_1 : decide ((1048576 : Int) < (x1.length : Int)) = false := decide_eq_false t1_1
  clear hlong1
  go_enter Try.func7, Try.ntmps7
  go_wp2_with fail
  have R0_0 := Lib.hid (show RowW .i64 w (.slice _ x0.length _) x0 from HR0.out)
  have R1_0 := Lib.hid (show RowW .i64 w (.slice _ x1.length _) x1 from HR1.out)
  go_wp2_with fail
  (with_reducible refine (toInt64S_any _ x0 _ R0_0.out HL0.out).mono ?_)
  rintro e w1 ⟨gs0, rfl, hr1, hd1⟩
  have HB_1 := Lib.hid (show Below w.heap.size w w1 from hd1)
  have R0_1 := Lib.hid (show RowW .i64 w1 (.slice _ x0.length _) x0 from RowW.below R0_0.out hd1)
  have R1_1 := Lib.hid (show RowW .i64 w1 (.slice _ x1.length _) x1 from RowW.below R1_0.out hd1)
  clear R0_0 R1_0
  have Ks0_1 := Lib.hid (show Row .i64 w1 (.slice (some ⟨gs0, 0, none⟩) x0.length x0.length) x0 from hr1)
  clear hr1
  clear hd1
  go_wp2_with fail
  (with_reducible refine (toInt64S_any _ x1 _ R1_1.out HL1.out).mono ?_)
  rintro e w2 ⟨gs1, rfl, hr2, hd2⟩
  have HB_2 := Lib.hid (show Below w.heap.size w w2 from HB_1.out.trans (hd2.mono HB_1.out.size))
  have R0_2 := Lib.hid (show RowW .i64 w2 (.slice _ x0.length _) x0 from RowW.below R0_1.out hd2)
  have R1_2 := Lib.hid (show RowW .i64 w2 (.slice _ x1.length _) x1 from RowW.below R1_1.out hd2)
  have Ks0_2 := Lib.hid (show Row .i64 w2 (.slice (some ⟨gs0, 0, none⟩) x0.length x0.length) x0 from Row.below Ks0_1.out hd2)
  clear R0_1 R1_1 Ks0_1
  have Ks1_2 := Lib.hid (show Row .i64 w2 (.slice (some ⟨gs1, 0, none⟩) x1.length x1.length) x1 from hr2)
  clear hr2
  clear hd2
  go_wp2_with fail
  (with_reducible refine (sMixFlows_any _ x0 _ x1 _ Ks0_2.out HL0.out Ks1_2.out HL1.out).mono ?_)
  rintro e w3 ⟨rfl, hd3⟩
  have HB_3 := Lib.hid (show Below w.heap.size w w3 from HB_2.out.trans (hd3.mono HB_2.out.size))
  have R0_3 := Lib.hid (show RowW .i64 w3 (.slice _ x0.length _) x0 from RowW.below R0_2.out hd3)
  have R1_3 := Lib.hid (show RowW .i64 w3 (.slice _ x1.length _) x1 from RowW.below R1_2.out hd3)
  have Ks0_3 := Lib.hid (show Row .i64 w3 (.slice (some ⟨gs0, 0, none⟩) x0.length x0.length) x0 from Row.below Ks0_2.out hd3)
  have Ks1_3 := Lib.hid (show Row .i64 w3 (.slice (some ⟨gs1, 0, none⟩) x1.length x1.length) x1 from Row.below Ks1_2.out hd3)
  clear R0_2 R1_2 Ks0_2 Ks1_2
  clear hd3
  go_wp2_with fail
  (with_reducible refine (toInt64S_any _ x0 _ R0_3.out HL0.out).mono ?_)
  rintro e w4 ⟨gx0, rfl, hr4, hd4⟩
  have HB_4 := Lib.hid (show Below w.heap.size w w4 from HB_3.out.trans (hd4.mono HB_3.out.size))
  have R0_4 := Lib.hid (show RowW .i64 w4 (.slice _ x0.length _) x0 from RowW.below R0_3.out hd4)
  have R1_4 := Lib.hid (show RowW .i64 w4 (.slice _ x1.length _) x1 from RowW.below R1_3.out hd4)
  clear R0_3 R1_3
  have Kx0_4 := Lib.hid (show Row .i64 w4 (.slice (some ⟨gx0, 0, none⟩) x0.length x0.length) x0 from hr4)
  clear hr4
  clear hd4
  go_wp2_with fail
  (with_reducible refine (toInt64S_any _ x1 _ R1_4.out HL1.out).mono ?_)
  rintro e w5 ⟨gx1, rfl, hr5, hd5⟩
  have HB_5 := Lib.hid (show Below w.heap.size w w5 from HB_4.out.trans (hd5.mono HB_4.out.size))
  have R0_5 := Lib.hid (show RowW .i64 w5 (.slice _ x0.length _) x0 from RowW.below R0_4.out hd5)
  have R1_5 := Lib.hid (show RowW .i64 w5 (.slice _ x1.length _) x1 from RowW.below R1_4.out hd5)
  have Kx0_5 := Lib.hid (show Row .i64 w5 (.slice (some ⟨gx0, 0, none⟩) x0.length x0.length) x0 from Row.below Kx0_4.out hd5)
  clear R0_4 R1_4 Kx0_4
  have Kx1_5 := Lib.hid (show Row .i64 w5 (.slice (some ⟨gx1, 0, none⟩) x1.length x1.length) x1 from hr5)
  clear hr5
  clear hd5
  go_wp2_with fail
  (with_reducible refine (iMixFlows_any _ x0 _ x1 _ Kx0_5.out HL0.out Kx1_5.out HL1.out).mono ?_)
  rintro e w6 ⟨rfl, hd6⟩
  have HB_6 := Lib.hid (show Below w.heap.size w w6 from HB_5.out.trans (hd6.mono HB_5.out.size))
  have R0_6 := Lib.hid (show RowW .i64 w6 (.slice _ x0.length _) x0 from RowW.below R0_5.out hd6)
  have R1_6 := Lib.hid (show RowW .i64 w6 (.slice _ x1.length _) x1 from RowW.below R1_5.out hd6)
  have Kx0_6 := Lib.hid (show Row .i64 w6 (.slice (some ⟨gx0, 0, none⟩) x0.length x0.length) x0 from Row.below Kx0_5.out hd6)
  have Kx1_6 := Lib.hid (show Row .i64 w6 (.slice (some ⟨gx1, 0, none⟩) x1.length x1.length) x1 from Row.below Kx1_5.out hd6)
  clear R0_5 R1_5 Kx0_5 Kx1_5
  clear hd6
  go_wp2_with fail
  (with_reducible refine (toInt64S_any _ x0 _ R0_6.out HL0.out).mono ?_)
  rintro e w7 ⟨gy0, rfl, hr7, hd7⟩
  have HB_7 := Lib.hid (show Below w.heap.size w w7 from HB_6.out.trans (hd7.mono HB_6.out.size))
  have R0_7 := Lib.hid (show RowW .i64 w7 (.slice _ x0.length _) x0 from RowW.below R0_6.out hd7)
  have R1_7 := Lib.hid (show RowW .i64 w7 (.slice _ x1.length _) x1 from RowW.below R1_6.out hd7)
  have Kx0_7 := Lib.hid (show Row .i64 w7 (.slice (some ⟨gx0, 0, none⟩) x0.length x0.length) x0 from Row.below Kx0_6.out hd7)
  have Kx1_7 := Lib.hid (show Row .i64 w7 (.slice (some ⟨gx1, 0, none⟩) x1.length x1.length) x1 from Row.below Kx1_6.out hd7)
  clear R0_6 R1_6 Kx0_6 Kx1_6
  have Ky0_7 := Lib.hid (show Row .i64 w7 (.slice (some ⟨gy0, 0, none⟩) x0.length x0.length) x0 from hr7)
  clear hr7
  clear hd7
  go_wp2_with fail
  (with_reducible refine (eqInt64S_same _ _ x0 _ Kx0_7.out Ky0_7.out (by have := HL0.out; omega)).mono ?_)
  rintro e w8 ⟨rfl, n8, hn8⟩
  have hd8 : Below w7.heap.size w7 w8 := hn8 ▸ below_drewN (Below.refl _ _) n8
  have HB_8 := Lib.hid (show Below w.heap.size w w8 from HB_7.out.trans (hd8.mono HB_7.out.size))
  have R0_8 := Lib.hid (show RowW .i64 w8 (.slice _ x0.length _) x0 from RowW.below R0_7.out hd8)
  have R1_8 := Lib.hid (show RowW .i64 w8 (.slice _ x1.length _) x1 from RowW.below R1_7.out hd8)
  have Kx0_8 := Lib.hid (show Row .i64 w8 (.slice (some ⟨gx0, 0, none⟩) x0.length x0.length) x0 from Row.below Kx0_7.out hd8)
  have Kx1_8 := Lib.hid (show Row .i64 w8 (.slice (some ⟨gx1, 0, none⟩) x1.length x1.length) x1 from Row.below Kx1_7.out hd8)
  have Ky0_8 := Lib.hid (show Row .i64 w8 (.slice (some ⟨gy0, 0, none⟩) x0.length x0.length) x0 from Row.below Ky0_7.out hd8)
  clear R0_7 R1_7 Kx0_7 Kx1_7 Ky0_7
  clear hd8 hn8
  go_wp2_with fail
  (with_reducible refine (toInt64S_any _ x1 _ R1_8.out HL1.out).mono ?_)
  rintro e w9 ⟨gy1, rfl, hr9, hd9⟩
  have HB_9 := Lib.hid (show Below w.heap.size w w9 from HB_8.out.trans (hd9.mono HB_8.out.size))
  have R0_9 := Lib.hid (show RowW .i64 w9 (.slice _ x0.length _) x0 from RowW.below R0_8.out hd9)
  have R1_9 := Lib.hid (show RowW .i64 w9 (.slice _ x1.length _) x1 from RowW.below R1_8.out hd9)
  have Kx0_9 := Lib.hid (show Row .i64 w9 (.slice (some ⟨gx0, 0, none⟩) x0.length x0.length) x0 from Row.below Kx0_8.out hd9)
  have Kx1_9 := Lib.hid (show Row .i64 w9 (.slice (some ⟨gx1, 0, none⟩) x1.length x1.length) x1 from Row.below Kx1_8.out hd9)
  clear R0_8 R1_8 Kx0_8 Kx1_8
  have Ky1_9 := Lib.hid (show Row .i64 w9 (.slice (some ⟨gy1, 0, none⟩) x1.length x1.length) x1 from hr9)
  clear hr9
  clear hd9
  go_wp2_with fail
  (with_reducible refine (eqInt64S_same _ _ x1 _ Kx1_9.out Ky1_9.out (by have := HL1.out; omega)).mono ?_)
  rintro e w10 ⟨rfl, n10, hn10⟩
  have hd10 : Below w9.heap.size w9 w10 := hn10 ▸ below_drewN (Below.refl _ _) n10
  have HB_10 := Lib.hid (show Below w.heap.size w w10 from HB_9.out.trans (hd10.mono HB_9.out.size))
  have R0_10 := Lib.hid (show RowW .i64 w10 (.slice _ x0.length _) x0 from RowW.below R0_9.out hd10)
  have R1_10 := Lib.hid (show RowW .i64 w10 (.slice _ x1.length _) x1 from RowW.below R1_9.out hd10)
  have Kx0_10 := Lib.hid (show Row .i64 w10 (.slice (some ⟨gx0, 0, none⟩) x0.length x0.length) x0 from Row.below Kx0_9.out hd10)
  have Kx1_10 := Lib.hid (show Row .i64 w10 (.slice (some ⟨gx1, 0, none⟩) x1.length x1.length) x1 from Row.below Kx1_9.out hd10)
  have Ky1_10 := Lib.hid (show Row .i64 w10 (.slice (some ⟨gy1, 0, none⟩) x1.length x1.length) x1 from Row.below Ky1_9.out hd10)
  clear R0_9 R1_9 Kx0_9 Kx1_9 Ky1_9
  clear hd10 hn10
  go_wp2
  go_ret
  exact ⟨rfl, HB_10.out⟩

set_option maxHeartbeats 1000000 in
set_option maxRecDepth 100000 in
theorem contract (H : Type) (enc : TypeId × Value → H) (W : World) (base : Nat) (args : Array Value) (ds gs : List (DataW H)) (before : List MemPlace)
    (hval : ∀ (j : Nat) t v, Try.f7.params[j]? = some t → args[j]? = some v → Value.okWide Try.prog W .any base t v)
    (hW : DataW.Whole enc Try.prog Try.f7.params.toList Rows.fnExactMixFlowsSpec.vars false W args.toList ds gs before) :
    Calls Try.prog 7 args W fun e W' => ∃ v, e = .returned v ∧ Rows.fnExactMixFlowsSpec.post enc Try.prog Try.f7 false true false false W args v W' := by
  have hW' := hW
  obtain ⟨p, q, hA0, hV, rfl, hfz, hnd⟩ := hW
  have hA : DataW.TrodAll enc Try.prog W 0 (fun _ => true) true Try.f7.params.toList args.toList ds p := hA0
  rw [Try.params7] at hA hval
  obtain ⟨v0, vs0, d0, ds0, p0, q0, hargs, rfl, rfl, h0, r0⟩ := trodAll_cons hA
  obtain ⟨v1, vs1, d1, ds1, p1, q1, rfl, rfl, rfl, h1, r1⟩ := trodAll_cons r0
  obtain ⟨rfl, rfl, rfl⟩ := trodAll_nil r1
  obtain rfl : args = #[v0, v1] := by cases args; simp_all
  obtain ⟨rfl, rfl⟩ := trodVars_none hV
  obtain ⟨a0, len0, cap0, rfl⟩ := okWide_slice Try.underlying43 (hval 0 43 v0 rfl rfl)
  have k0 := h0
  have lt0 : ∀ x ∈ p0, x.block < W.heap.size := by obtain ⟨m, hm⟩ := k0; exact DataW.trod_lt m _ _ _ hm
  obtain ⟨z0, w0⟩ : ∃ zs, IsRow .i64 W a0 len0 cap0 zs := by
    obtain ⟨fuel, hf⟩ := h0
    rcases open_ints Try.underlying43 Try.underlying2 (by kernel_rfl) hf with ⟨hcs, _⟩ | ⟨x, l, c, zs, hcs, _, hl, hm, hz, _, hcell, hwz⟩
    · simp [Value.cells] at hcs
      obtain ⟨rfl, rfl, rfl⟩ := hcs
      exact ⟨[], .inl ⟨rfl, rfl, rfl, rfl⟩⟩
    · simp [Value.cells] at hcs
      obtain ⟨rfl, rfl, rfl⟩ := hcs
      exact ⟨zs, .inr ⟨_, rfl, hl, hm, by simpa using hz, hcell, hwz⟩⟩
  obtain ⟨a1, len1, cap1, rfl⟩ := okWide_slice Try.underlying43 (hval 1 43 v1 rfl rfl)
  have k1 := h1
  have lt1 : ∀ x ∈ p1, x.block < W.heap.size := by obtain ⟨m, hm⟩ := k1; exact DataW.trod_lt m _ _ _ hm
  obtain ⟨z1, w1⟩ : ∃ zs, IsRow .i64 W a1 len1 cap1 zs := by
    obtain ⟨fuel, hf⟩ := h1
    rcases open_ints Try.underlying43 Try.underlying2 (by kernel_rfl) hf with ⟨hcs, _⟩ | ⟨x, l, c, zs, hcs, _, hl, hm, hz, _, hcell, hwz⟩
    · simp [Value.cells] at hcs
      obtain ⟨rfl, rfl, rfl⟩ := hcs
      exact ⟨[], .inl ⟨rfl, rfl, rfl, rfl⟩⟩
    · simp [Value.cells] at hcs
      obtain ⟨rfl, rfl, rfl⟩ := hcs
      exact ⟨zs, .inr ⟨_, rfl, hl, hm, by simpa using hz, hcell, hwz⟩⟩
  clear hA0
  refine (walk W a0 len0 cap0 z0 w0 a1 len1 cap1 z1 w1).mono fun e W' ⟨he, bel⟩ => ?_
  subst he
  exact ⟨_, rfl, _, _, _, [], _, [], hW', trodAll_mk1 (shut_bool Try.underlying4 _), (trodAll_cons_mk (Below.trod laidOut (by kernel_rfl) (of_decide_eq_true (by kernel_rfl)) k0 bel lt0) (trodAll_cons_mk (Below.trod laidOut (by kernel_rfl) (of_decide_eq_true (by kernel_rfl)) k1 bel lt1) trodAll_mk0)), rfl, bel.frame _, fun h => by cases h⟩

set_option maxRecDepth 100000 in
theorem lifted (os : Os) (started : os.Started) (H : Type) (enc : TypeId × Value → H) :
    ReturnsInHanded {} Try.checked os 7 .any (Rows.fnExactMixFlowsSpec.pre6 enc Try.prog Try.f7 Rows.fnExactMixFlowsRow.domain false) (Rows.fnExactMixFlowsSpec.post enc Try.prog Try.f7 false true false false) := by
  refine returnsInHanded_of_change (C := Try.checked) own started (by kernel_rfl) Try.func7
    (ChangeSpec.witness6 (enc := enc) (C := Try.checked) false ⟨#[], #[.slice none 0 0, .slice none 0 0], []⟩ 8 (by kernel_rfl) (by kernel_rfl) (by kernel_rfl) (by kernel_rfl)) ?_
  intro W base args ds gs before hval hW hcnd _
  exact contract H enc W base args ds gs before hval hW

set_option maxHeartbeats 4000000 in
theorem facts : joinedFacts Try.pinned.checked.prog 7 Try.f7 Rows.fnExactMixFlowsSpec Rows.fnExactMixFlowsRow = true := by
  unfold joinedFacts
  simp only [Bool.and_eq_true]
  repeat' apply And.intro
  all_goals first
    | (with_reducible exact fxMay)
    | (rw [fxLifts]; as_aux_lemma => kernel_rfl)
    | (rw [fxMake]; as_aux_lemma => kernel_rfl)
    | (as_aux_lemma => kernel_rfl)
theorem proved : Rows.FnExactMixFlowsSaid :=
  OpenClaim.holds_of_wide 7 Try.f7 rfl rfl rfl rfl rfl rfl rfl ⟨rfl, rfl, rfl, rfl, rfl⟩ rfl rfl rfl rfl rfl (by kernel_rfl) Try.func7 facts
    (of_decide_eq_true (by kernel_rfl)) (by unfold Func.isWrapper; first | (rw [if_pos (by decide +kernel)]; kernel_rfl) | (rw [if_neg (by decide +kernel)]; exact ⟨rfl, rfl⟩))
    (fun os started H enc _ => lifted os started H enc)
#print axioms proved
end Go.Proofs.Ythbofhlfggkolaa.fnExactMixFlows
