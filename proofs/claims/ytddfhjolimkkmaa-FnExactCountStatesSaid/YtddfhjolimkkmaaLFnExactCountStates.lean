/-
  PROVED: for every input the function laws.FnExactCountStates returns true and leaves its arguments as they were. Conditions: none.
-/
import Derived.Test.YtddfhjolimkkmaaRows
import Derived.Test.YtddfhjolimkkmaaJp
import Derived.Test.YtddfhjolimkkmaaFx
import Derived.WalkKit
import Derived.ProofKit
import Derived.OpenShut
import Derived.ShutString
import Derived.ChangeOld
import Derived.Below
import Derived.Carry
namespace Go.Proofs.Ytddfhjolimkkmaa.fnExactCountStates
open Go.ChangeShapes Go.WideShapes Go.ChangeAt Go.RowKit
open Go.ChangeMaps (open_string shut_string)

set_option linter.unusedVariables false
set_option linter.unusedSimpArgs false

theorem own : ownKnob Try.prog.godebug = none := by kernel_rfl
theorem laidOut : laidOutB Try.prog = true := by kernel_rfl
set_option maxHeartbeats 4000000 in

theorem walk (w : World) (a0 : Int) (w0 : (Lit.int .i64 a0).wf = true) (A1 : Option Addr) (C1 : Nat) (x1 : List (List Int)) (l1 : x1.length ≤ maxLen) (r1 : RowsR w A1 x1) (f1 : rowsFit x1) :
    Calls Try.prog 11 #[.int .i64 a0, .slice A1 x1.length C1] w fun e w' => e = .returned (.bool true) ∧ Below w.heap.size w w' := by
  have HLL1 := Lib.hid l1
  have HR1 := Lib.hid r1
  have S1 := Lib.hid f1
  clear r1
  by_cases hs1 : szSS 1048576 x1 < 0
  · skip
    go_enter Try.func11, Try.ntmps11
    go_wp2_with fail
    have R1_0 := Lib.hid (show RowsR w A1 x1 from HR1.out)
    go_wp2_with fail
    (with_reducible refine (szInt64SS_any A1 C1 x1 (1048576) _ R1_0.out S1.out HLL1.out (by omega)).mono ?_)
    rintro e w1 ⟨rfl, hd1⟩
    have HB_1 := Lib.hid (show Below w.heap.size w w1 from hd1)
    have R1_1 := Lib.hid (show RowsR w1 A1 x1 from RowsR.below R1_0.out hd1)
    clear R1_0
    clear hd1
    go_wp2
    go_ret
    exact ⟨rfl, HB_1.out⟩
  have HL1 := Lib.hid (show x1.length ≤ 1048576 from by have h8 := (szSS_bd (left := 1048576) (by omega) (Int.not_lt.1 hs1)).1; omega)
  have HLR1 := Lib.hid (show ∀ r ∈ x1, r.length ≤ 1048576 from fun r hr => by have h8 := (szSS_bd (left := 1048576) (by omega) (Int.not_lt.1 hs1)).2 r hr; omega)
  go_enter Try.func11, Try.ntmps11
  go_wp2_with fail
  have R1_0 := Lib.hid (show RowsR w A1 x1 from HR1.out)
  go_wp2_with fail
  (with_reducible refine (szInt64SS_any A1 C1 x1 (1048576) _ R1_0.out S1.out HLL1.out (by omega)).mono ?_)
  rintro e w1 ⟨rfl, hd1⟩
  have HB_1 := Lib.hid (show Below w.heap.size w w1 from hd1)
  have R1_1 := Lib.hid (show RowsR w1 A1 x1 from RowsR.below R1_0.out hd1)
  clear R1_0
  clear hd1
  go_wp2_with fail
  (with_reducible refine (toInt64SS_own A1 C1 x1 _ R1_1.out HL1.out HLR1.out).mono ?_)
  rintro e w2 ⟨gs1, rfl, hk2, hd2⟩
  have HB_2 := Lib.hid (show Below w.heap.size w w2 from HB_1.out.trans (hd2.mono HB_1.out.size))
  have R1_2 := Lib.hid (show RowsR w2 A1 x1 from RowsR.below R1_1.out hd2)
  clear R1_1
  have Ks1_2 := Lib.hid (show RowsR w2 (some ⟨gs1, 0, none⟩) x1 from hk2.rows)
  clear hk2
  clear hd2
  go_wp2_with fail
  (with_reducible refine (sCountStates_any a0 (some ⟨gs1, 0, none⟩) x1.length x1 _ Ks1_2.out HL1.out HLR1.out).mono ?_)
  rintro e w3 ⟨rfl, hd3⟩
  have HB_3 := Lib.hid (show Below w.heap.size w w3 from HB_2.out.trans (hd3.mono HB_2.out.size))
  have R1_3 := Lib.hid (show RowsR w3 A1 x1 from RowsR.below R1_2.out hd3)
  have Ks1_3 := Lib.hid (show RowsR w3 (some ⟨gs1, 0, none⟩) x1 from Ks1_2.out.below hd3)
  clear R1_2 Ks1_2
  clear hd3
  go_wp2_with fail
  (with_reducible refine (toInt64SS_own A1 C1 x1 _ R1_3.out HL1.out HLR1.out).mono ?_)
  rintro e w4 ⟨gx1, rfl, hk4, hd4⟩
  have HB_4 := Lib.hid (show Below w.heap.size w w4 from HB_3.out.trans (hd4.mono HB_3.out.size))
  have R1_4 := Lib.hid (show RowsR w4 A1 x1 from RowsR.below R1_3.out hd4)
  clear R1_3
  have Kx1_4 := Lib.hid (show RowsR w4 (some ⟨gx1, 0, none⟩) x1 from hk4.rows)
  clear hk4
  clear hd4
  go_wp2_with fail
  (with_reducible refine (iCountStates_any a0 (some ⟨gx1, 0, none⟩) x1.length x1 _ Kx1_4.out HL1.out HLR1.out).mono ?_)
  rintro e w5 ⟨rfl, hd5⟩
  have HB_5 := Lib.hid (show Below w.heap.size w w5 from HB_4.out.trans (hd5.mono HB_4.out.size))
  have R1_5 := Lib.hid (show RowsR w5 A1 x1 from RowsR.below R1_4.out hd5)
  have Kx1_5 := Lib.hid (show RowsR w5 (some ⟨gx1, 0, none⟩) x1 from Kx1_4.out.below hd5)
  clear R1_4 Kx1_4
  clear hd5
  go_wp2_with fail
  (with_reducible refine (toInt64SS_own A1 C1 x1 _ R1_5.out HL1.out HLR1.out).mono ?_)
  rintro e w6 ⟨gy1, rfl, hk6, hd6⟩
  have HB_6 := Lib.hid (show Below w.heap.size w w6 from HB_5.out.trans (hd6.mono HB_5.out.size))
  have R1_6 := Lib.hid (show RowsR w6 A1 x1 from RowsR.below R1_5.out hd6)
  have Kx1_6 := Lib.hid (show RowsR w6 (some ⟨gx1, 0, none⟩) x1 from Kx1_5.out.below hd6)
  clear R1_5 Kx1_5
  have Ky1_6 := Lib.hid (show RowsR w6 (some ⟨gy1, 0, none⟩) x1 from hk6.rows)
  clear hk6
  clear hd6
  go_wp2_with fail
  (with_reducible refine (eqInt64SS_w (some ⟨gx1, 0, none⟩) (some ⟨gy1, 0, none⟩) x1.length x1.length x1 _ Kx1_6.out Ky1_6.out HL1.out HLR1.out).mono ?_)
  rintro e w7 ⟨rfl, hd7⟩
  have HB_7 := Lib.hid (show Below w.heap.size w w7 from HB_6.out.trans (hd7.mono HB_6.out.size))
  have R1_7 := Lib.hid (show RowsR w7 A1 x1 from RowsR.below R1_6.out hd7)
  have Kx1_7 := Lib.hid (show RowsR w7 (some ⟨gx1, 0, none⟩) x1 from Kx1_6.out.below hd7)
  have Ky1_7 := Lib.hid (show RowsR w7 (some ⟨gy1, 0, none⟩) x1 from Ky1_6.out.below hd7)
  clear R1_6 Kx1_6 Ky1_6
  clear hd7
  go_wp2
  go_ret
  exact ⟨rfl, HB_7.out⟩

set_option maxHeartbeats 1000000 in
set_option maxRecDepth 100000 in
theorem contract (H : Type) (enc : TypeId × Value → H) (W : World) (base : Nat) (args : Array Value) (ds gs : List (DataW H)) (before : List MemPlace)
    (hval : ∀ (j : Nat) t v, Try.f11.params[j]? = some t → args[j]? = some v → Value.okWide Try.prog W .any base t v)
    (hW : DataW.Whole enc Try.prog Try.f11.params.toList Rows.fnExactCountStatesSpec.vars false W args.toList ds gs before) :
    Calls Try.prog 11 args W fun e W' => ∃ v, e = .returned v ∧ Rows.fnExactCountStatesSpec.post enc Try.prog Try.f11 false true false false W args v W' := by
  have hW' := hW
  obtain ⟨p, q, hA0, hV, rfl, hfz, hnd⟩ := hW
  have hA : DataW.TrodAll enc Try.prog W 0 (fun _ => true) true Try.f11.params.toList args.toList ds p := hA0
  rw [Try.params11] at hA hval
  obtain ⟨v0, vs0, d0, ds0, p0, q0, hargs, rfl, rfl, h0, r0⟩ := trodAll_cons hA
  obtain ⟨v1, vs1, d1, ds1, p1, q1, rfl, rfl, rfl, h1, r1⟩ := trodAll_cons r0
  obtain ⟨rfl, rfl, rfl⟩ := trodAll_nil r1
  obtain rfl : args = #[v0, v1] := by cases args; simp_all
  obtain ⟨rfl, rfl⟩ := trodVars_none hV
  obtain ⟨a0, rfl, rfl, rfl, w0⟩ := open_int Try.underlying2 (hval 0 2 v0 rfl rfl) h0
  obtain ⟨a1, len1, cap1, rfl⟩ := okWide_slice Try.underlying62 (hval 1 62 v1 rfl rfl)
  have k1 := h1
  have lt1 : ∀ x ∈ p1, x.block < W.heap.size := by obtain ⟨m, hm⟩ := k1; exact DataW.trod_lt m _ _ _ hm
  obtain ⟨fu1, ho1⟩ := h1
  obtain ⟨A1, C1, x1, qx1, lx1, rx1, fx1⟩ := open_rows ho1
  simp only [Value.cells] at qx1
  obtain ⟨rfl, rfl, rfl⟩ : a1 = A1 ∧ len1 = x1.length ∧ cap1 = C1 := by simpa using qx1
  clear hA0
  refine (walk W a0 w0 a1 cap1 x1 lx1 rx1 fx1).mono fun e W' ⟨he, bel⟩ => ?_
  subst he
  exact ⟨_, rfl, _, _, _, [], _, [], hW', trodAll_mk1 (shut_bool Try.underlying4 _), (trodAll_cons_mk (shut_int Try.underlying2 w0) (trodAll_cons_mk (Below.trod laidOut (by kernel_rfl) (of_decide_eq_true (by kernel_rfl)) k1 bel lt1) trodAll_mk0)), rfl, bel.frame _, fun h => by cases h⟩

set_option maxRecDepth 100000 in
theorem lifted (os : Os) (started : os.Started) (H : Type) (enc : TypeId × Value → H) :
    ReturnsInHanded {} Try.checked os 11 .any (Rows.fnExactCountStatesSpec.pre6 enc Try.prog Try.f11 Rows.fnExactCountStatesRow.domain false) (Rows.fnExactCountStatesSpec.post enc Try.prog Try.f11 false true false false) := by
  refine returnsInHanded_of_change (C := Try.checked) own started (by kernel_rfl) Try.func11
    (ChangeSpec.witness6 (enc := enc) (C := Try.checked) false ⟨#[], #[.int .i64 0, .slice none 0 0], []⟩ 8 (by kernel_rfl) (by kernel_rfl) (by kernel_rfl) (by kernel_rfl)) ?_
  intro W base args ds gs before hval hW hcnd _
  exact contract H enc W base args ds gs before hval hW

set_option maxHeartbeats 4000000 in
theorem facts : joinedFacts Try.pinned.checked.prog 11 Try.f11 Rows.fnExactCountStatesSpec Rows.fnExactCountStatesRow = true := by
  unfold joinedFacts
  simp only [Bool.and_eq_true]
  repeat' apply And.intro
  all_goals first
    | (with_reducible exact fxMay)
    | (rw [fxLifts]; as_aux_lemma => kernel_rfl)
    | (rw [fxMake]; as_aux_lemma => kernel_rfl)
    | (as_aux_lemma => kernel_rfl)
theorem proved : Rows.FnExactCountStatesSaid :=
  OpenClaim.holds_of_wide 11 Try.f11 rfl rfl rfl rfl rfl rfl rfl ⟨rfl, rfl, rfl, rfl, rfl⟩ rfl rfl rfl rfl rfl (by kernel_rfl) Try.func11 facts
    (of_decide_eq_true (by kernel_rfl)) (by unfold Func.isWrapper; first | (rw [if_pos (by decide +kernel)]; kernel_rfl) | (rw [if_neg (by decide +kernel)]; exact ⟨rfl, rfl⟩))
    (fun os started H enc _ => lifted os started H enc)
#print axioms proved
end Go.Proofs.Ytddfhjolimkkmaa.fnExactCountStates
