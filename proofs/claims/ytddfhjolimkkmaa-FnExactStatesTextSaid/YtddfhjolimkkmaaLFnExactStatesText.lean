/-
  PROVED: for every input the function laws.FnExactStatesText returns true and leaves its arguments as they were. Conditions: none.
-/
import Derived.Test.YtddfhjolimkkmaaRows
import Derived.Test.YtddfhjolimkkmaaJq
import Derived.Test.YtddfhjolimkkmaaFx
import Derived.WalkKit
import Derived.ProofKit
import Derived.OpenShut
import Derived.ShutString
import Derived.ChangeOld
import Derived.Below
import Derived.Carry
namespace Go.Proofs.Ytddfhjolimkkmaa.fnExactStatesText
open Go.ChangeShapes Go.WideShapes Go.ChangeAt Go.RowKit
open Go.ChangeMaps (open_string shut_string)

set_option linter.unusedVariables false
set_option linter.unusedSimpArgs false

theorem own : ownKnob Try.prog.godebug = none := by kernel_rfl
theorem laidOut : laidOutB Try.prog = true := by kernel_rfl
theorem ownB_read {w : World} {B g n cap : Nat} {xs : List Bool} (h : OwnB w B (.slice (some ⟨g, 0, none⟩) n cap) xs) : BoR w (some ⟨g, 0, none⟩) xs := by
  obtain ⟨A, c, e, hr⟩ := h.read
  injection e with e1 e2 e3
  subst e1
  exact hr
set_option maxHeartbeats 4000000 in

theorem walk (w : World) (A0 : Option Addr) (C0 : Nat) (x0 : List Bool) (l0 : x0.length ≤ maxLen) (r0 : BoR w A0 x0) (f0 : True) :
    Calls Try.prog 13 #[.slice A0 x0.length C0] w fun e w' => e = .returned (.bool true) ∧ Below w.heap.size w w' := by
  have HLL0 := Lib.hid l0
  have HR0 := Lib.hid r0
  clear r0
  by_cases hlong0 : 1048576 < x0.length
  · have t1 : (1048576 : Int) < (x0.length : Int) := by omega
    go_enter Try.func13, Try.ntmps13
    go_wp2
    go_ret
    exact ⟨rfl, Below.refl _ _⟩
  have HL0 := Lib.hid (show x0.length ≤ 1048576 by omega)
  have t1_0 : ¬ (1048576 : Int) < (x0.length : Int) := by omega
  have t2_0 : decide ((1048576 : Int) < (x0.length : Int)) = false := decide_eq_false t1_0
  clear hlong0
  go_enter Try.func13, Try.ntmps13
  go_wp2_with fail
  have R0_0 := Lib.hid (show BoR w A0 x0 from HR0.out)
  go_wp2_with fail
  (with_reducible refine (toBoolS_own A0 C0 x0 _ R0_0.out HL0.out).mono ?_)
  rintro e w1 ⟨gs0, rfl, hk1, hd1⟩
  have HB_1 := Lib.hid (show Below w.heap.size w w1 from hd1)
  have R0_1 := Lib.hid (show BoR w1 A0 x0 from BoR.below R0_0.out hd1)
  clear R0_0
  have Ks0_1 := Lib.hid (show BoR w1 (some ⟨gs0, 0, none⟩) x0 from (ownB_read hk1))
  clear hk1
  clear hd1
  go_wp2_with fail
  (with_reducible refine (sStatesText_any (some ⟨gs0, 0, none⟩) x0.length x0 _ Ks0_1.out HL0.out).mono ?_)
  rintro e w2 ⟨rfl, hd2⟩
  have HB_2 := Lib.hid (show Below w.heap.size w w2 from HB_1.out.trans (hd2.mono HB_1.out.size))
  have R0_2 := Lib.hid (show BoR w2 A0 x0 from BoR.below R0_1.out hd2)
  have Ks0_2 := Lib.hid (show BoR w2 (some ⟨gs0, 0, none⟩) x0 from Ks0_1.out.below hd2)
  clear R0_1 Ks0_1
  clear hd2
  go_wp2_with fail
  (with_reducible refine (toBoolS_own A0 C0 x0 _ R0_2.out HL0.out).mono ?_)
  rintro e w3 ⟨gx0, rfl, hk3, hd3⟩
  have HB_3 := Lib.hid (show Below w.heap.size w w3 from HB_2.out.trans (hd3.mono HB_2.out.size))
  have R0_3 := Lib.hid (show BoR w3 A0 x0 from BoR.below R0_2.out hd3)
  clear R0_2
  have Kx0_3 := Lib.hid (show BoR w3 (some ⟨gx0, 0, none⟩) x0 from (ownB_read hk3))
  clear hk3
  clear hd3
  go_wp2_with fail
  (with_reducible refine (iStatesText_any (some ⟨gx0, 0, none⟩) x0.length x0 _ Kx0_3.out HL0.out).mono ?_)
  rintro e w4 ⟨rfl, hd4⟩
  have HB_4 := Lib.hid (show Below w.heap.size w w4 from HB_3.out.trans (hd4.mono HB_3.out.size))
  have R0_4 := Lib.hid (show BoR w4 A0 x0 from BoR.below R0_3.out hd4)
  have Kx0_4 := Lib.hid (show BoR w4 (some ⟨gx0, 0, none⟩) x0 from Kx0_3.out.below hd4)
  clear R0_3 Kx0_3
  clear hd4
  go_wp2_with fail
  (with_reducible refine (toBoolS_own A0 C0 x0 _ R0_4.out HL0.out).mono ?_)
  rintro e w5 ⟨gy0, rfl, hk5, hd5⟩
  have HB_5 := Lib.hid (show Below w.heap.size w w5 from HB_4.out.trans (hd5.mono HB_4.out.size))
  have R0_5 := Lib.hid (show BoR w5 A0 x0 from BoR.below R0_4.out hd5)
  have Kx0_5 := Lib.hid (show BoR w5 (some ⟨gx0, 0, none⟩) x0 from Kx0_4.out.below hd5)
  clear R0_4 Kx0_4
  have Ky0_5 := Lib.hid (show BoR w5 (some ⟨gy0, 0, none⟩) x0 from (ownB_read hk5))
  clear hk5
  clear hd5
  go_wp2_with fail
  (with_reducible refine (eqBoolS_same (some ⟨gx0, 0, none⟩) (some ⟨gy0, 0, none⟩) x0.length x0.length x0 _ Kx0_5.out Ky0_5.out HL0.out).mono ?_)
  rintro e w6 ⟨rfl, hd6⟩
  have HB_6 := Lib.hid (show Below w.heap.size w w6 from HB_5.out.trans (hd6.mono HB_5.out.size))
  have R0_6 := Lib.hid (show BoR w6 A0 x0 from BoR.below R0_5.out hd6)
  have Kx0_6 := Lib.hid (show BoR w6 (some ⟨gx0, 0, none⟩) x0 from Kx0_5.out.below hd6)
  have Ky0_6 := Lib.hid (show BoR w6 (some ⟨gy0, 0, none⟩) x0 from Ky0_5.out.below hd6)
  clear R0_5 Kx0_5 Ky0_5
  clear hd6
  go_wp2
  go_ret
  exact ⟨rfl, HB_6.out⟩

set_option maxHeartbeats 1000000 in
set_option maxRecDepth 100000 in
theorem contract (H : Type) (enc : TypeId × Value → H) (W : World) (base : Nat) (args : Array Value) (ds gs : List (DataW H)) (before : List MemPlace)
    (hval : ∀ (j : Nat) t v, Try.f13.params[j]? = some t → args[j]? = some v → Value.okWide Try.prog W .any base t v)
    (hW : DataW.Whole enc Try.prog Try.f13.params.toList Rows.fnExactStatesTextSpec.vars false W args.toList ds gs before) :
    Calls Try.prog 13 args W fun e W' => ∃ v, e = .returned v ∧ Rows.fnExactStatesTextSpec.post enc Try.prog Try.f13 false true false false W args v W' := by
  have hW' := hW
  obtain ⟨p, q, hA0, hV, rfl, hfz, hnd⟩ := hW
  have hA : DataW.TrodAll enc Try.prog W 0 (fun _ => true) true Try.f13.params.toList args.toList ds p := hA0
  rw [Try.params13] at hA hval
  obtain ⟨v0, vs0, d0, ds0, p0, q0, hargs, rfl, rfl, h0, r0⟩ := trodAll_cons hA
  obtain ⟨rfl, rfl, rfl⟩ := trodAll_nil r0
  obtain rfl : args = #[v0] := by cases args; simp_all
  obtain ⟨rfl, rfl⟩ := trodVars_none hV
  obtain ⟨a0, len0, cap0, rfl⟩ := okWide_slice Try.underlying45 (hval 0 45 v0 rfl rfl)
  have k0 := h0
  have lt0 : ∀ x ∈ p0, x.block < W.heap.size := by obtain ⟨m, hm⟩ := k0; exact DataW.trod_lt m _ _ _ hm
  obtain ⟨fu0, ho0⟩ := h0
  obtain ⟨A0, C0, x0, qx0, lx0, rx0, fx0⟩ := open_bools ho0
  simp only [Value.cells] at qx0
  obtain ⟨rfl, rfl, rfl⟩ : a0 = A0 ∧ len0 = x0.length ∧ cap0 = C0 := by simpa using qx0
  clear hA0
  refine (walk W a0 cap0 x0 lx0 rx0 fx0).mono fun e W' ⟨he, bel⟩ => ?_
  subst he
  exact ⟨_, rfl, _, _, _, [], _, [], hW', trodAll_mk1 (shut_bool Try.underlying4 _), (trodAll_cons_mk (Below.trod laidOut (by kernel_rfl) (of_decide_eq_true (by kernel_rfl)) k0 bel lt0) trodAll_mk0), rfl, bel.frame _, fun h => by cases h⟩

set_option maxRecDepth 100000 in
theorem lifted (os : Os) (started : os.Started) (H : Type) (enc : TypeId × Value → H) :
    ReturnsInHanded {} Try.checked os 13 .any (Rows.fnExactStatesTextSpec.pre6 enc Try.prog Try.f13 Rows.fnExactStatesTextRow.domain false) (Rows.fnExactStatesTextSpec.post enc Try.prog Try.f13 false true false false) := by
  refine returnsInHanded_of_change (C := Try.checked) own started (by kernel_rfl) Try.func13
    (ChangeSpec.witness6 (enc := enc) (C := Try.checked) false ⟨#[], #[.slice none 0 0], []⟩ 8 (by kernel_rfl) (by kernel_rfl) (by kernel_rfl) (by kernel_rfl)) ?_
  intro W base args ds gs before hval hW hcnd _
  exact contract H enc W base args ds gs before hval hW

set_option maxHeartbeats 4000000 in
theorem facts : joinedFacts Try.pinned.checked.prog 13 Try.f13 Rows.fnExactStatesTextSpec Rows.fnExactStatesTextRow = true := by
  unfold joinedFacts
  simp only [Bool.and_eq_true]
  repeat' apply And.intro
  all_goals first
    | (with_reducible exact fxMay)
    | (rw [fxLifts]; as_aux_lemma => kernel_rfl)
    | (rw [fxMake]; as_aux_lemma => kernel_rfl)
    | (as_aux_lemma => kernel_rfl)
theorem proved : Rows.FnExactStatesTextSaid :=
  OpenClaim.holds_of_wide 13 Try.f13 rfl rfl rfl rfl rfl rfl rfl ⟨rfl, rfl, rfl, rfl, rfl⟩ rfl rfl rfl rfl rfl (by kernel_rfl) Try.func13 facts
    (of_decide_eq_true (by kernel_rfl)) (by unfold Func.isWrapper; first | (rw [if_pos (by decide +kernel)]; kernel_rfl) | (rw [if_neg (by decide +kernel)]; exact ⟨rfl, rfl⟩))
    (fun os started H enc _ => lifted os started H enc)
#print axioms proved
end Go.Proofs.Ytddfhjolimkkmaa.fnExactStatesText
