/-
  PROVED: for every input the function laws.FnExactReadStates returns true and leaves its arguments as they were. Conditions: none.
-/
import Derived.Test.YtddfhjolimkkmaaRows
import Derived.Test.YtddfhjolimkkmaaJu
import Derived.Test.YtddfhjolimkkmaaFx
import Derived.WalkKit
import Derived.ProofKit
import Derived.OpenShut
import Derived.ShutString
import Derived.ChangeOld
import Derived.Below
import Derived.Carry
namespace Go.Proofs.Ytddfhjolimkkmaa.fnExactReadStates
open Go.ChangeShapes Go.WideShapes Go.ChangeAt Go.RowKit
open Go.ChangeMaps (open_string shut_string)

set_option linter.unusedVariables false
set_option linter.unusedSimpArgs false

theorem own : ownKnob Try.prog.godebug = none := by kernel_rfl
theorem laidOut : laidOutB Try.prog = true := by kernel_rfl
set_option maxHeartbeats 4000000 in

theorem walk (w : World) (a0 : ByteArray) (w0 : a0.size ≤ maxLen) :
    Calls Try.prog 14 #[.string a0] w fun e w' => e = .returned (.bool true) ∧ Below w.heap.size w w' := by
  by_cases hlong : 1048576 < a0.size
  · have t1 : (1048576 : Int) < (a0.size : Int) := by omega
    go_enter Try.func14, Try.ntmps14
    go_wp2
    go_ret
    exact ⟨rfl, Below.refl _ _⟩
  · have t1 : ¬ (1048576 : Int) < (a0.size : Int) := by omega
    have t2 : decide ((1048576 : Int) < (a0.size : Int)) = false := decide_eq_false t1
    have hs : a0.size ≤ 1048576 := by omega
    have HS := Lib.hid (fun W => spReadStates_any a0 W hs)
    have HI := Lib.hid (fun W => iReadStates_any a0 W hs)
    have hxl := rdV_len a0
    generalize rdV a0 = xs at *
    generalize rdOk a0 = b at *
    go_enter Try.func14, Try.ntmps14
    go_wp2_with fail
    refine (HS.out _).mono ?_
    rintro e w1 ⟨v1, rfl, ho1, hb1⟩
    have O1 := Lib.hid (show OwnB w1 w.heap.size v1 xs from ho1)
    have B1 := Lib.hid hb1
    clear ho1 hb1
    go_wp2_with fail
    refine (HI.out _).mono ?_
    rintro e w2 ⟨v2, rfl, ho2, hb2⟩
    have O2 := Lib.hid (show OwnB w2 w1.heap.size v2 xs from ho2)
    have B2 := Lib.hid hb2
    clear ho2 hb2
    have B12 := Lib.hid (B1.out.trans (B2.out.mono B1.out.size))
    have O12 := Lib.hid (O1.out.below B2.out)
    go_wp2_with fail
    refine (eqBoolS_w v2 v1 xs _ O2.out O12.out (by omega)).mono ?_
    rintro e w3 ⟨rfl, hb3⟩
    have B3 := Lib.hid (B12.out.trans (hb3.mono B12.out.size))
    have O23 := Lib.hid (O2.out.below hb3)
    have O13 := Lib.hid (O12.out.below hb3)
    clear hb3
    go_wp2_with fail
    refine (markBoolS_any w1.heap.size v2 xs 1 _ O23.out (by omega) (by omega)).mono ?_
    rintro e w4 ⟨rfl, ho4, hg4⟩
    have O4 := Lib.hid ho4
    have G4 := Lib.hid hg4
    clear ho4 hg4
    have B4 := Lib.hid (Below.grown (a := w) (B := w.heap.size) B3.out G4.out B3.out.size (fun k hk => Nat.le_trans B1.out.size (O23.out.lt k hk).1))
    have O14 := Lib.hid (OwnB.apart O13.out (fun k hk => (O1.out.lt k hk).2) O23.out G4.out)
    go_wp2_with fail
    refine (heldBoolS_any w1.heap.size v2 xs.length 1 _ O4.out (by omega) (by omega)).mono ?_
    rintro e w5 ⟨rfl, hb5⟩
    have B5 := Lib.hid (B4.out.trans (hb5.mono B4.out.size))
    have O45 := Lib.hid (O4.out.below hb5)
    have O15 := Lib.hid (O14.out.below hb5)
    clear hb5
    have hm1 : ¬ (1 + (xs.length : Int) < 0) := by omega
    have hm2 : (1 + (xs.length : Int) != 1 + (xs.length : Int)) = false := by simp
    go_wp2_with fail
    refine (HI.out _).mono ?_
    rintro e w6 ⟨v6, rfl, ho6, hb6⟩
    have O6 := Lib.hid (show OwnB w6 w5.heap.size v6 xs from ho6)
    have B6 := Lib.hid hb6
    clear ho6 hb6
    go_wp2_with fail
    refine (eqBoolS_w v6 v1 xs _ O6.out (O15.out.below B6.out) (by omega)).mono ?_
    rintro e w7 ⟨rfl, hb7⟩
    have B7 := Lib.hid hb7
    clear hb7
    go_wp2_with fail
    refine (heldBoolS_any w1.heap.size v2 xs.length 1 _ ((O45.out.below B6.out).below B7.out) (by omega) (by omega)).mono ?_
    rintro e w8 ⟨rfl, hb8⟩
    have B67 := Lib.hid (B5.out.trans (B6.out.mono B5.out.size))
    have B78 := Lib.hid (B67.out.trans (B7.out.mono B67.out.size))
    have B8 := Lib.hid (B78.out.trans (hb8.mono B78.out.size))
    clear hb8
    go_wp2
    go_ret
    exact ⟨rfl, B8.out⟩

set_option maxHeartbeats 1000000 in
set_option maxRecDepth 100000 in
theorem contract (H : Type) (enc : TypeId × Value → H) (W : World) (base : Nat) (args : Array Value) (ds gs : List (DataW H)) (before : List MemPlace)
    (hval : ∀ (j : Nat) t v, Try.f14.params[j]? = some t → args[j]? = some v → Value.okWide Try.prog W .any base t v)
    (hW : DataW.Whole enc Try.prog Try.f14.params.toList Rows.fnExactReadStatesSpec.vars false W args.toList ds gs before) :
    Calls Try.prog 14 args W fun e W' => ∃ v, e = .returned v ∧ Rows.fnExactReadStatesSpec.post enc Try.prog Try.f14 false true false false W args v W' := by
  have hW' := hW
  obtain ⟨p, q, hA0, hV, rfl, hfz, hnd⟩ := hW
  have hA : DataW.TrodAll enc Try.prog W 0 (fun _ => true) true Try.f14.params.toList args.toList ds p := hA0
  rw [Try.params14] at hA hval
  obtain ⟨v0, vs0, d0, ds0, p0, q0, hargs, rfl, rfl, h0, r0⟩ := trodAll_cons hA
  obtain ⟨rfl, rfl, rfl⟩ := trodAll_nil r0
  obtain rfl : args = #[v0] := by cases args; simp_all
  obtain ⟨rfl, rfl⟩ := trodVars_none hV
  obtain ⟨a0, rfl, rfl, rfl, w0⟩ := open_string Try.underlying9 (hval 0 9 v0 rfl rfl) h0
  clear hA0
  refine (walk W a0 w0).mono fun e W' ⟨he, bel⟩ => ?_
  subst he
  exact ⟨_, rfl, _, _, _, [], _, [], hW', trodAll_mk1 (shut_bool Try.underlying4 _), (trodAll_cons_mk (shut_string Try.underlying9 w0) trodAll_mk0), rfl, bel.frame _, fun h => by cases h⟩

set_option maxRecDepth 100000 in
theorem lifted (os : Os) (started : os.Started) (H : Type) (enc : TypeId × Value → H) :
    ReturnsInHanded {} Try.checked os 14 .any (Rows.fnExactReadStatesSpec.pre6 enc Try.prog Try.f14 Rows.fnExactReadStatesRow.domain false) (Rows.fnExactReadStatesSpec.post enc Try.prog Try.f14 false true false false) := by
  refine returnsInHanded_of_change (C := Try.checked) own started (by kernel_rfl) Try.func14
    (ChangeSpec.witness6 (enc := enc) (C := Try.checked) false ⟨#[], #[.string ByteArray.empty], []⟩ 8 (by kernel_rfl) (by kernel_rfl) (by kernel_rfl) (by kernel_rfl)) ?_
  intro W base args ds gs before hval hW hcnd _
  exact contract H enc W base args ds gs before hval hW

set_option maxHeartbeats 4000000 in
theorem facts : joinedFacts Try.pinned.checked.prog 14 Try.f14 Rows.fnExactReadStatesSpec Rows.fnExactReadStatesRow = true := by
  unfold joinedFacts
  simp only [Bool.and_eq_true]
  repeat' apply And.intro
  all_goals first
    | (with_reducible exact fxMay)
    | (rw [fxLifts]; as_aux_lemma => kernel_rfl)
    | (rw [fxMake]; as_aux_lemma => kernel_rfl)
    | (as_aux_lemma => kernel_rfl)
theorem proved : Rows.FnExactReadStatesSaid :=
  OpenClaim.holds_of_wide 14 Try.f14 rfl rfl rfl rfl rfl rfl rfl ⟨rfl, rfl, rfl, rfl, rfl⟩ rfl rfl rfl rfl rfl (by kernel_rfl) Try.func14 facts
    (of_decide_eq_true (by kernel_rfl)) (by unfold Func.isWrapper; first | (rw [if_pos (by decide +kernel)]; kernel_rfl) | (rw [if_neg (by decide +kernel)]; exact ⟨rfl, rfl⟩))
    (fun os started H enc _ => lifted os started H enc)
#print axioms proved
end Go.Proofs.Ytddfhjolimkkmaa.fnExactReadStates
