/-
  PROVED: for every input the function laws.FnExactLongestStay returns true and leaves its arguments as they were. Conditions: none.
-/
import Derived.Test.YtnlkikdgffaeeaaRows
import Derived.Test.YtnlkikdgffaeeaaQo
import Derived.Test.YtnlkikdgffaeeaaTkb
import Derived.Test.YtnlkikdgffaeeaaFx
import Derived.WalkKit
import Derived.ProofKit
import Derived.OpenShut
import Derived.ShutString
import Derived.ChangeOld
import Derived.Below
import Derived.Carry
namespace Go.Proofs.Ytnlkikdgffaeeaa.fnExactLongestStay
open Go.ChangeShapes Go.WideShapes Go.ChangeAt Go.RowKit
open Go.ChangeMaps (open_string shut_string)

set_option linter.unusedVariables false
set_option linter.unusedSimpArgs false

theorem own : ownKnob Try.prog.godebug = none := by kernel_rfl
theorem laidOut : laidOutB Try.prog = true := by kernel_rfl
set_option maxHeartbeats 4000000 in

theorem walk (w : World) (A0 : Option Addr) (C0 : Nat) (x0 : List Tk) (l0 : x0.length ≤ maxLen) (r0 : TkR w A0 x0) (f0 : ∀ a ∈ x0, a.fits) (a1 : Int) (w1 : (Lit.int .i64 a1).wf = true) (a2 : Int) (w2 : (Lit.int .i64 a2).wf = true) (a3 : Int) (w3 : (Lit.int .i64 a3).wf = true) :
    Calls Try.prog 11 #[.slice A0 x0.length C0, .int .i64 a1, .int .i64 a2, .int .i64 a3] w fun e w' => e = .returned (.bool true) ∧ Below w.heap.size w w' := by
  have HLL0 := Lib.hid l0
  have HR0 := Lib.hid r0
  clear r0
  by_cases hs0 : szLTk 1048576 x0 < 0
  · skip
    go_enter Try.func11, Try.ntmps11
    go_wp2_with fail
    have R0_0 := Lib.hid (show TkR w A0 x0 from HR0.out)
    go_wp2_with fail
    (with_reducible refine (szDustingS_any A0 C0 x0 (1048576) _ R0_0.out HLL0.out (by omega)).mono ?_)
    rintro e w1 ⟨rfl, hd1⟩
    have HB_1 := Lib.hid (show Below w.heap.size w w1 from hd1)
    have R0_1 := Lib.hid (show TkR w1 A0 x0 from TkR.below R0_0.out hd1)
    clear R0_0
    clear hd1
    go_wp2
    go_ret
    exact ⟨rfl, HB_1.out⟩
  have HL0 := Lib.hid (show x0.length ≤ 1048576 from by have h8 := (szLTk_bd (left := 1048576) (by omega) (Int.not_lt.1 hs0)).1; omega)
  go_enter Try.func11, Try.ntmps11
  go_wp2_with fail
  have R0_0 := Lib.hid (show TkR w A0 x0 from HR0.out)
  go_wp2_with fail
  (with_reducible refine (szDustingS_any A0 C0 x0 (1048576) _ R0_0.out HLL0.out (by omega)).mono ?_)
  rintro e w1 ⟨rfl, hd1⟩
  have HB_1 := Lib.hid (show Below w.heap.size w w1 from hd1)
  have R0_1 := Lib.hid (show TkR w1 A0 x0 from TkR.below R0_0.out hd1)
  clear R0_0
  clear hd1
  go_wp2_with fail
  (with_reducible refine (toDustingS_any A0 C0 x0 _ R0_1.out HL0.out).mono ?_)
  rintro e w2 ⟨gs0, rfl, hk2, hg2, hd2⟩
  have HB_2 := Lib.hid (show Below w.heap.size w w2 from HB_1.out.trans (hd2.mono HB_1.out.size))
  have R0_2 := Lib.hid (show TkR w2 A0 x0 from TkR.below R0_1.out hd2)
  clear R0_1
  have Ks0_2 := Lib.hid (show BlkV w2 gs0 25 (tkV x0) from hk2)
  clear hk2 hg2
  clear hd2
  go_wp2_with fail
  (with_reducible refine (sLongestStay_any (some ⟨gs0, 0, none⟩) x0.length x0 a1 a2 a3 _ (Ks0_2.out.tkR) HL0.out).mono ?_)
  rintro e w3 ⟨rfl, hd3⟩
  have HB_3 := Lib.hid (show Below w.heap.size w w3 from HB_2.out.trans (hd3.mono HB_2.out.size))
  have R0_3 := Lib.hid (show TkR w3 A0 x0 from TkR.below R0_2.out hd3)
  have Ks0_3 := Lib.hid (show BlkV w3 gs0 25 (tkV x0) from Ks0_2.out.below hd3 Ks0_2.out.lt)
  clear R0_2 Ks0_2
  clear hd3
  go_wp2_with fail
  (with_reducible refine (toDustingS_any A0 C0 x0 _ R0_3.out HL0.out).mono ?_)
  rintro e w4 ⟨gx0, rfl, hk4, hg4, hd4⟩
  have HB_4 := Lib.hid (show Below w.heap.size w w4 from HB_3.out.trans (hd4.mono HB_3.out.size))
  have R0_4 := Lib.hid (show TkR w4 A0 x0 from TkR.below R0_3.out hd4)
  clear R0_3
  have Kx0_4 := Lib.hid (show BlkV w4 gx0 25 (tkV x0) from hk4)
  clear hk4 hg4
  clear hd4
  go_wp2_with fail
  (with_reducible refine (iLongestStay_any (some ⟨gx0, 0, none⟩) x0.length x0 a1 a2 a3 _ (Kx0_4.out.tkR) HL0.out).mono ?_)
  rintro e w5 ⟨rfl, hd5⟩
  have HB_5 := Lib.hid (show Below w.heap.size w w5 from HB_4.out.trans (hd5.mono HB_4.out.size))
  have R0_5 := Lib.hid (show TkR w5 A0 x0 from TkR.below R0_4.out hd5)
  have Kx0_5 := Lib.hid (show BlkV w5 gx0 25 (tkV x0) from Kx0_4.out.below hd5 Kx0_4.out.lt)
  clear R0_4 Kx0_4
  clear hd5
  go_wp2_with fail
  (with_reducible refine (toDustingS_any A0 C0 x0 _ R0_5.out HL0.out).mono ?_)
  rintro e w6 ⟨gy0, rfl, hk6, hg6, hd6⟩
  have HB_6 := Lib.hid (show Below w.heap.size w w6 from HB_5.out.trans (hd6.mono HB_5.out.size))
  have R0_6 := Lib.hid (show TkR w6 A0 x0 from TkR.below R0_5.out hd6)
  have Kx0_6 := Lib.hid (show BlkV w6 gx0 25 (tkV x0) from Kx0_5.out.below hd6 Kx0_5.out.lt)
  clear R0_5 Kx0_5
  have Ky0_6 := Lib.hid (show BlkV w6 gy0 25 (tkV x0) from hk6)
  clear hk6 hg6
  clear hd6
  go_wp2_with fail
  (with_reducible refine (eqDustingS_same (some ⟨gx0, 0, none⟩) (some ⟨gy0, 0, none⟩) x0.length x0.length x0 _ (Kx0_6.out.tkR) (Ky0_6.out.tkR) HL0.out).mono ?_)
  rintro e w7 ⟨rfl, hd7⟩
  have HB_7 := Lib.hid (show Below w.heap.size w w7 from HB_6.out.trans (hd7.mono HB_6.out.size))
  have R0_7 := Lib.hid (show TkR w7 A0 x0 from TkR.below R0_6.out hd7)
  have Kx0_7 := Lib.hid (show BlkV w7 gx0 25 (tkV x0) from Kx0_6.out.below hd7 Kx0_6.out.lt)
  have Ky0_7 := Lib.hid (show BlkV w7 gy0 25 (tkV x0) from Ky0_6.out.below hd7 Ky0_6.out.lt)
  clear R0_6 Kx0_6 Ky0_6
  clear hd7
  go_wp2
  go_ret
  exact ⟨rfl, HB_7.out⟩

set_option maxHeartbeats 1000000 in
set_option maxRecDepth 100000 in
theorem contract (H : Type) (enc : TypeId × Value → H) (W : World) (base : Nat) (args : Array Value) (ds gs : List (DataW H)) (before : List MemPlace)
    (hval : ∀ (j : Nat) t v, Try.f11.params[j]? = some t → args[j]? = some v → Value.okWide Try.prog W .any base t v)
    (hW : DataW.Whole enc Try.prog Try.f11.params.toList Rows.fnExactLongestStaySpec.vars false W args.toList ds gs before) :
    Calls Try.prog 11 args W fun e W' => ∃ v, e = .returned v ∧ Rows.fnExactLongestStaySpec.post enc Try.prog Try.f11 false true false false W args v W' := by
  have hW' := hW
  obtain ⟨p, q, hA0, hV, rfl, hfz, hnd⟩ := hW
  have hA : DataW.TrodAll enc Try.prog W 0 (fun _ => true) true Try.f11.params.toList args.toList ds p := hA0
  rw [Try.params11] at hA hval
  obtain ⟨v0, vs0, d0, ds0, p0, q0, hargs, rfl, rfl, h0, r0⟩ := trodAll_cons hA
  obtain ⟨v1, vs1, d1, ds1, p1, q1, rfl, rfl, rfl, h1, r1⟩ := trodAll_cons r0
  obtain ⟨v2, vs2, d2, ds2, p2, q2, rfl, rfl, rfl, h2, r2⟩ := trodAll_cons r1
  obtain ⟨v3, vs3, d3, ds3, p3, q3, rfl, rfl, rfl, h3, r3⟩ := trodAll_cons r2
  obtain ⟨rfl, rfl, rfl⟩ := trodAll_nil r3
  obtain rfl : args = #[v0, v1, v2, v3] := by cases args; simp_all
  obtain ⟨rfl, rfl⟩ := trodVars_none hV
  obtain ⟨a0, len0, cap0, rfl⟩ := okWide_slice Try.underlying28 (hval 0 28 v0 rfl rfl)
  have k0 := h0
  have lt0 : ∀ x ∈ p0, x.block < W.heap.size := by obtain ⟨m, hm⟩ := k0; exact DataW.trod_lt m _ _ _ hm
  obtain ⟨fu0, ho0⟩ := h0
  obtain ⟨A0, C0, x0, qx0, lx0, rx0, fx0⟩ := open_tks ho0
  simp only [Value.cells] at qx0
  obtain ⟨rfl, rfl, rfl⟩ : a0 = A0 ∧ len0 = x0.length ∧ cap0 = C0 := by simpa using qx0
  obtain ⟨a1, rfl, rfl, rfl, w1⟩ := open_int Try.underlying2 (hval 1 2 v1 rfl rfl) h1
  obtain ⟨a2, rfl, rfl, rfl, w2⟩ := open_int Try.underlying2 (hval 2 2 v2 rfl rfl) h2
  obtain ⟨a3, rfl, rfl, rfl, w3⟩ := open_int Try.underlying2 (hval 3 2 v3 rfl rfl) h3
  clear hA0
  refine (walk W a0 cap0 x0 lx0 rx0 fx0 a1 w1 a2 w2 a3 w3).mono fun e W' ⟨he, bel⟩ => ?_
  subst he
  exact ⟨_, rfl, _, _, _, [], _, [], hW', trodAll_mk1 (shut_bool Try.underlying4 _), (trodAll_cons_mk (Below.trod laidOut (by kernel_rfl) (of_decide_eq_true (by kernel_rfl)) k0 bel lt0) (trodAll_cons_mk (shut_int Try.underlying2 w1) (trodAll_cons_mk (shut_int Try.underlying2 w2) (trodAll_cons_mk (shut_int Try.underlying2 w3) trodAll_mk0)))), rfl, bel.frame _, fun h => by cases h⟩

set_option maxRecDepth 100000 in
theorem lifted (os : Os) (started : os.Started) (H : Type) (enc : TypeId × Value → H) :
    ReturnsInHanded {} Try.checked os 11 .any (Rows.fnExactLongestStaySpec.pre6 enc Try.prog Try.f11 Rows.fnExactLongestStayRow.domain false) (Rows.fnExactLongestStaySpec.post enc Try.prog Try.f11 false true false false) := by
  refine returnsInHanded_of_change (C := Try.checked) own started (by kernel_rfl) Try.func11
    (ChangeSpec.witness6 (enc := enc) (C := Try.checked) false ⟨#[], #[.slice none 0 0, .int .i64 0, .int .i64 0, .int .i64 0], []⟩ 8 (by kernel_rfl) (by kernel_rfl) (by kernel_rfl) (by kernel_rfl)) ?_
  intro W base args ds gs before hval hW hcnd _
  exact contract H enc W base args ds gs before hval hW

set_option maxHeartbeats 4000000 in
theorem facts : joinedFacts Try.pinned.checked.prog 11 Try.f11 Rows.fnExactLongestStaySpec Rows.fnExactLongestStayRow = true := by
  unfold joinedFacts
  simp only [Bool.and_eq_true]
  repeat' apply And.intro
  all_goals first
    | (with_reducible exact fxMay)
    | (rw [fxLifts]; as_aux_lemma => kernel_rfl)
    | (rw [fxMake]; as_aux_lemma => kernel_rfl)
    | (as_aux_lemma => kernel_rfl)
theorem proved : Rows.FnExactLongestStaySaid :=
  OpenClaim.holds_of_wide 11 Try.f11 rfl rfl rfl rfl rfl rfl rfl ⟨rfl, rfl, rfl, rfl, rfl⟩ rfl rfl rfl rfl rfl (by kernel_rfl) Try.func11 facts
    (of_decide_eq_true (by kernel_rfl)) (by unfold Func.isWrapper; first | (rw [if_pos (by decide +kernel)]; kernel_rfl) | (rw [if_neg (by decide +kernel)]; exact ⟨rfl, rfl⟩))
    (fun os started H enc _ => lifted os started H enc)
#print axioms proved
end Go.Proofs.Ytnlkikdgffaeeaa.fnExactLongestStay
