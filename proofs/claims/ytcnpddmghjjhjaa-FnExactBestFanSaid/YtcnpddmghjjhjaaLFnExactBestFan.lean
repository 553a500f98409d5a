/-
  PROVED: for every input the function laws.FnExactBestFan returns true and leaves its arguments as they were. Conditions: none.
-/
import Derived.Test.YtcnpddmghjjhjaaRows
import Derived.Test.YtcnpddmghjjhjaaVm
import Derived.WalkKit
import Derived.ProofKit
import Derived.OpenShut
import Derived.ShutString
import Derived.ChangeOld
import Derived.Below
import Derived.Carry
namespace Go.Proofs.Ytcnpddmghjjhjaa.fnExactBestFan
open Go.ChangeShapes Go.WideShapes Go.ChangeAt Go.RowKit
open Go.ChangeMaps (open_string shut_string)

set_option linter.unusedVariables false
set_option linter.unusedSimpArgs false

theorem own : ownKnob Try.prog.godebug = none := by kernel_rfl
theorem laidOut : laidOutB Try.prog = true := by kernel_rfl
set_option maxHeartbeats 4000000 in

theorem walk (w : World) (A0 : Option Addr) (C0 : Nat) (x0 : List Fa) (l0 : x0.length ≤ maxLen) (r0 : FansR False w A0 x0) (f0 : fansFit x0) (a1 : Int) (w1 : (Lit.int .i64 a1).wf = true) (a2 : Int) (w2 : (Lit.int .i64 a2).wf = true) :
    Calls Try.prog 12 #[.slice A0 x0.length C0, .int .i64 a1, .int .i64 a2] w fun e w' => e = .returned (.bool true) ∧ Below w.heap.size w w' := by
  have FF0 := Lib.hid f0
  have LL0 := Lib.hid l0
  have RR0 := Lib.hid r0
  clear f0 l0 r0
  by_cases hz : szFS 1048576 x0 < 0
  · skip
    go_enter Try.func12, Try.ntmps12
    have R0_0 := Lib.hid (show FansR False w A0 x0 from RR0.out)
    go_wp2_with fail
    (with_reducible refine (szFanS_any A0 C0 x0 (1048576) _ R0_0.out FF0.out LL0.out (by omega)).mono ?_)
    rintro e w1 ⟨rfl, hd1⟩
    have HB_1 := Lib.hid (show Below w.heap.size w w1 from hd1)
    have R0_1 := Lib.hid (show FansR False w1 A0 x0 from FansR.below R0_0.out hd1)
    clear R0_0
    clear hd1
    go_wp2
    go_ret
    exact ⟨rfl, HB_1.out⟩
  · have hfb := szFS_bd (left := 1048576) (fs := x0) (by omega) (by omega)
    have HL0 := Lib.hid (And.intro (show x0.length ≤ 1048576 by have := hfb.1; omega) (show ∀ f ∈ x0, f.sm from fun f hf => by have := hfb.2 f hf; exact ⟨by omega, by omega, fun r hr => by have := this.2.2 r hr; omega⟩))
    clear hfb
    go_enter Try.func12, Try.ntmps12
    have R0_0 := Lib.hid (show FansR False w A0 x0 from RR0.out)
    go_wp2_with fail
    (with_reducible refine (szFanS_any A0 C0 x0 (1048576) _ R0_0.out FF0.out LL0.out (by omega)).mono ?_)
    rintro e w1 ⟨rfl, hd1⟩
    have HB_1 := Lib.hid (show Below w.heap.size w w1 from hd1)
    have R0_1 := Lib.hid (show FansR False w1 A0 x0 from FansR.below R0_0.out hd1)
    clear R0_0
    clear hd1
    go_wp2_with fail
    (with_reducible refine (toFanS_any A0 C0 x0 _ R0_1.out HL0.out.1 HL0.out.2).mono ?_)
    rintro e w2 ⟨gs, rfl, hO2, -, hd2⟩
    have HB_2 := Lib.hid (show Below w.heap.size w w2 from HB_1.out.trans (hd2.mono HB_1.out.size))
    have R0_2 := Lib.hid (show FansR False w2 A0 x0 from FansR.below R0_1.out hd2)
    clear R0_1
    have Os_2 := Lib.hid (show FansR True w2 (some ⟨gs, 0, none⟩) x0 from hO2)
    clear hO2
    clear hd2
    go_wp2_with fail
    (with_reducible refine (sBestFan_any True (some ⟨gs, 0, none⟩) x0.length x0 a1 a2 _ Os_2.out HL0.out.1 HL0.out.2).mono ?_)
    rintro e w3 ⟨rfl, hd3⟩
    have HB_3 := Lib.hid (show Below w.heap.size w w3 from HB_2.out.trans (hd3.mono HB_2.out.size))
    have R0_3 := Lib.hid (show FansR False w3 A0 x0 from FansR.below R0_2.out hd3)
    have Os_3 := Lib.hid (show FansR True w3 (some ⟨gs, 0, none⟩) x0 from FansR.below Os_2.out hd3)
    clear R0_2 Os_2
    clear hd3
    go_wp2_with fail
    (with_reducible refine (toFanS_any A0 C0 x0 _ R0_3.out HL0.out.1 HL0.out.2).mono ?_)
    rintro e w4 ⟨gi, rfl, hO4, -, hd4⟩
    have HB_4 := Lib.hid (show Below w.heap.size w w4 from HB_3.out.trans (hd4.mono HB_3.out.size))
    have R0_4 := Lib.hid (show FansR False w4 A0 x0 from FansR.below R0_3.out hd4)
    have Os_4 := Lib.hid (show FansR True w4 (some ⟨gs, 0, none⟩) x0 from FansR.below Os_3.out hd4)
    clear R0_3 Os_3
    have Oi_4 := Lib.hid (show FansR True w4 (some ⟨gi, 0, none⟩) x0 from hO4)
    clear hO4
    clear hd4
    go_wp2_with fail
    (with_reducible refine (iBestFan_any True (some ⟨gi, 0, none⟩) x0.length x0 a1 a2 _ Oi_4.out HL0.out.1 HL0.out.2).mono ?_)
    rintro e w5 ⟨rfl, hd5⟩
    have HB_5 := Lib.hid (show Below w.heap.size w w5 from HB_4.out.trans (hd5.mono HB_4.out.size))
    have R0_5 := Lib.hid (show FansR False w5 A0 x0 from FansR.below R0_4.out hd5)
    have Os_5 := Lib.hid (show FansR True w5 (some ⟨gs, 0, none⟩) x0 from FansR.below Os_4.out hd5)
    have Oi_5 := Lib.hid (show FansR True w5 (some ⟨gi, 0, none⟩) x0 from FansR.below Oi_4.out hd5)
    clear R0_4 Os_4 Oi_4
    clear hd5
    go_wp2_with fail
    (with_reducible refine (toFanS_any A0 C0 x0 _ R0_5.out HL0.out.1 HL0.out.2).mono ?_)
    rintro e w6 ⟨ge, rfl, hO6, -, hd6⟩
    have HB_6 := Lib.hid (show Below w.heap.size w w6 from HB_5.out.trans (hd6.mono HB_5.out.size))
    have R0_6 := Lib.hid (show FansR False w6 A0 x0 from FansR.below R0_5.out hd6)
    have Os_6 := Lib.hid (show FansR True w6 (some ⟨gs, 0, none⟩) x0 from FansR.below Os_5.out hd6)
    have Oi_6 := Lib.hid (show FansR True w6 (some ⟨gi, 0, none⟩) x0 from FansR.below Oi_5.out hd6)
    clear R0_5 Os_5 Oi_5
    have Oe_6 := Lib.hid (show FansR True w6 (some ⟨ge, 0, none⟩) x0 from hO6)
    clear hO6
    clear hd6
    go_wp2_with fail
    (with_reducible refine (eqFanS_same True True (some ⟨gi, 0, none⟩) (some ⟨ge, 0, none⟩) x0.length x0.length x0 _ Oi_6.out Oe_6.out HL0.out.1 HL0.out.2).mono ?_)
    rintro e w7 ⟨rfl, hd7⟩
    have HB_7 := Lib.hid (show Below w.heap.size w w7 from HB_6.out.trans (hd7.mono HB_6.out.size))
    have R0_7 := Lib.hid (show FansR False w7 A0 x0 from FansR.below R0_6.out hd7)
    have Os_7 := Lib.hid (show FansR True w7 (some ⟨gs, 0, none⟩) x0 from FansR.below Os_6.out hd7)
    have Oi_7 := Lib.hid (show FansR True w7 (some ⟨gi, 0, none⟩) x0 from FansR.below Oi_6.out hd7)
    have Oe_7 := Lib.hid (show FansR True w7 (some ⟨ge, 0, none⟩) x0 from FansR.below Oe_6.out hd7)
    clear R0_6 Os_6 Oi_6 Oe_6
    clear hd7
    go_wp2
    go_ret
    exact ⟨rfl, HB_7.out⟩

set_option maxRecDepth 100000 in
theorem contract (H : Type) (enc : TypeId × Value → H) (W : World) (base : Nat) (args : Array Value) (ds gs : List (DataW H)) (before : List MemPlace)
    (hval : ∀ (j : Nat) t v, Try.f12.params[j]? = some t → args[j]? = some v → Value.okWide Try.prog W .any base t v)
    (hW : DataW.Whole enc Try.prog Try.f12.params.toList Rows.fnExactBestFanSpec.vars false W args.toList ds gs before) :
    Calls Try.prog 12 args W fun e W' => ∃ v, e = .returned v ∧ Rows.fnExactBestFanSpec.post enc Try.prog Try.f12 false true false false W args v W' := by
  have hW' := hW
  obtain ⟨p, q, hA0, hV, rfl, hfz, hnd⟩ := hW
  have hA : DataW.TrodAll enc Try.prog W 0 (fun _ => true) true Try.f12.params.toList args.toList ds p := hA0
  rw [Try.params12] at hA hval
  obtain ⟨v0, vs0, d0, ds0, p0, q0, hargs, rfl, rfl, h0, r0⟩ := trodAll_cons hA
  obtain ⟨v1, vs1, d1, ds1, p1, q1, rfl, rfl, rfl, h1, r1⟩ := trodAll_cons r0
  obtain ⟨v2, vs2, d2, ds2, p2, q2, rfl, rfl, rfl, h2, r2⟩ := trodAll_cons r1
  obtain ⟨rfl, rfl, rfl⟩ := trodAll_nil r2
  obtain rfl : args = #[v0, v1, v2] := by cases args; simp_all
  obtain ⟨rfl, rfl⟩ := trodVars_none hV
  obtain ⟨a0, len0, cap0, rfl⟩ := okWide_slice Try.underlying31 (hval 0 31 v0 rfl rfl)
  have k0 := h0
  have lt0 : ∀ x ∈ p0, x.block < W.heap.size := by obtain ⟨m, hm⟩ := k0; exact DataW.trod_lt m _ _ _ hm
  obtain ⟨fu0, ho0⟩ := h0
  obtain ⟨A0, C0, x0, qx0, lx0, rx0, fx0⟩ := open_fans ho0
  simp only [Value.cells] at qx0
  obtain ⟨rfl, rfl, rfl⟩ : a0 = A0 ∧ len0 = x0.length ∧ cap0 = C0 := by simpa using qx0
  obtain ⟨a1, rfl, rfl, rfl, w1⟩ := open_int Try.underlying2 (hval 1 2 v1 rfl rfl) h1
  obtain ⟨a2, rfl, rfl, rfl, w2⟩ := open_int Try.underlying2 (hval 2 2 v2 rfl rfl) h2
  clear hA0
  refine (walk W a0 cap0 x0 lx0 rx0 fx0 a1 w1 a2 w2).mono fun e W' ⟨he, bel⟩ => ?_
  subst he
  exact ⟨_, rfl, _, _, _, [], _, [], hW', trodAll_mk1 (shut_bool Try.underlying4 _), (trodAll_cons_mk (Below.trod laidOut (by kernel_rfl) (of_decide_eq_true (by kernel_rfl)) k0 bel lt0) (trodAll_cons_mk (shut_int Try.underlying2 w1) (trodAll_cons_mk (shut_int Try.underlying2 w2) trodAll_mk0))), rfl, bel.frame _, fun h => by cases h⟩

set_option maxRecDepth 100000 in
theorem lifted (os : Os) (started : os.Started) (H : Type) (enc : TypeId × Value → H) :
    ReturnsInHanded {} Try.checked os 12 .any (Rows.fnExactBestFanSpec.pre6 enc Try.prog Try.f12 Rows.fnExactBestFanRow.domain false) (Rows.fnExactBestFanSpec.post enc Try.prog Try.f12 false true false false) := by
  refine returnsInHanded_of_change (C := Try.checked) own started (by kernel_rfl) Try.func12
    (ChangeSpec.witness6 (enc := enc) (C := Try.checked) false ⟨#[], #[.slice none 0 0, .int .i64 0, .int .i64 0], []⟩ 8 (by kernel_rfl) (by kernel_rfl) (by kernel_rfl) (by kernel_rfl)) ?_
  intro W base args ds gs before hval hW hcnd _
  exact contract H enc W base args ds gs before hval hW

theorem proved : Rows.FnExactBestFanSaid :=
  OpenClaim.holds_of_wide 12 Try.f12 rfl rfl rfl rfl rfl rfl rfl ⟨rfl, rfl, rfl, rfl, rfl⟩ rfl rfl rfl rfl rfl (by kernel_rfl) Try.func12 (by kernel_rfl)
    (of_decide_eq_true (by kernel_rfl)) (by unfold Func.isWrapper; first | (rw [if_pos (by decide +kernel)]; kernel_rfl) | (rw [if_neg (by decide +kernel)]; exact ⟨rfl, rfl⟩))
    (fun os started H enc _ => lifted os started H enc)
#print axioms proved
end Go.Proofs.Ytcnpddmghjjhjaa.fnExactBestFan
