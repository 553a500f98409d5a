/-
  PROVED: for every input the function laws.FnExactExposureOf returns true and leaves its arguments as they were. Conditions: none.
-/
import Derived.Test.YtnlkikdgffaeeaaRows
import Derived.Test.YtnlkikdgffaeeaaQp
import Derived.Test.YtnlkikdgffaeeaaTkb
import Derived.Test.YtnlkikdgffaeeaaFx
import Derived.WalkKit
import Derived.ProofKit
import Derived.OpenShut
import Derived.ShutString
import Derived.ChangeOld
import Derived.Below
import Derived.Carry
namespace Go.Proofs.Ytnlkikdgffaeeaa.fnExactExposureOf
open Go.ChangeShapes Go.WideShapes Go.ChangeAt Go.RowKit
open Go.ChangeMaps (open_string shut_string)

set_option linter.unusedVariables false
set_option linter.unusedSimpArgs false

theorem own : ownKnob Try.prog.godebug = none := by kernel_rfl
theorem laidOut : laidOutB Try.prog = true := by kernel_rfl
set_option maxHeartbeats 4000000 in

theorem walk (w : World) (A0 : Option Addr) (C0 : Nat) (x0 : List Tk) (l0 : x0.length ≤ maxLen) (r0 : TkR w A0 x0) (f0 : ∀ a ∈ x0, a.fits) (A1 : Option Addr) (C1 : Nat) (x1 : List (List Int)) (l1 : x1.length ≤ maxLen) (r1 : RowsR w A1 x1) (f1 : rowsFit x1) :
    Calls Try.prog 9 #[.slice A0 x0.length C0, .slice A1 x1.length C1] w fun e w' => e = .returned (.bool true) ∧ Below w.heap.size w w' := by
  have HLL0 := Lib.hid l0
  have HR0 := Lib.hid r0
  clear r0
  have HLL1 := Lib.hid l1
  have HR1 := Lib.hid r1
  have S1 := Lib.hid f1
  clear r1
  by_cases hs0 : szLTk 1048576 x0 < 0
  · skip
    go_enter Try.func9, Try.ntmps9
    go_wp2_with fail
    have R0_0 := Lib.hid (show TkR w A0 x0 from HR0.out)
    have R1_0 := Lib.hid (show RowsR w A1 x1 from HR1.out)
    go_wp2_with fail
    (with_reducible refine (szDustingS_any A0 C0 x0 (1048576) _ R0_0.out HLL0.out (by omega)).mono ?_)
    rintro e w1 ⟨rfl, hd1⟩
    have HB_1 := Lib.hid (show Below w.heap.size w w1 from hd1)
    have R0_1 := Lib.hid (show TkR w1 A0 x0 from TkR.below R0_0.out hd1)
    have R1_1 := Lib.hid (show RowsR w1 A1 x1 from RowsR.below R1_0.out hd1)
    clear R0_0 R1_0
    clear hd1
    go_wp2
    go_ret
    exact ⟨rfl, HB_1.out⟩
  have HL0 := Lib.hid (show x0.length ≤ 1048576 from by have h8 := (szLTk_bd (left := 1048576) (by omega) (Int.not_lt.1 hs0)).1; omega)
  have HLB1 := Lib.hid (show 0 ≤ szLTk 1048576 x0 ∧ szLTk 1048576 x0 ≤ 1048576 from by
    have h1 := Int.not_lt.1 hs0
    have h2 := (szLTk_le (left := 1048576) (xs := x0) (by omega)).2
    omega)
  by_cases hs1 : szSS (szLTk 1048576 x0) x1 < 0
  · skip
    go_enter Try.func9, Try.ntmps9
    go_wp2_with fail
    have R0_0 := Lib.hid (show TkR w A0 x0 from HR0.out)
    have R1_0 := Lib.hid (show RowsR w A1 x1 from HR1.out)
    go_wp2_with fail
    (with_reducible refine (szDustingS_any A0 C0 x0 (1048576) _ R0_0.out HLL0.out (by omega)).mono ?_)
    rintro e w1 ⟨rfl, hd1⟩
    have HB_1 := Lib.hid (show Below w.heap.size w w1 from hd1)
    have R0_1 := Lib.hid (show TkR w1 A0 x0 from TkR.below R0_0.out hd1)
    have R1_1 := Lib.hid (show RowsR w1 A1 x1 from RowsR.below R1_0.out hd1)
    clear R0_0 R1_0
    clear hd1
    go_wp2_with fail
    (with_reducible refine (szInt64SS_any A1 C1 x1 (szLTk 1048576 x0) _ R1_1.out S1.out HLL1.out HLB1.out).mono ?_)
    rintro e w2 ⟨rfl, hd2⟩
    have HB_2 := Lib.hid (show Below w.heap.size w w2 from HB_1.out.trans (hd2.mono HB_1.out.size))
    have R0_2 := Lib.hid (show TkR w2 A0 x0 from TkR.below R0_1.out hd2)
    have R1_2 := Lib.hid (show RowsR w2 A1 x1 from RowsR.below R1_1.out hd2)
    clear R0_1 R1_1
    clear hd2
    go_wp2
    go_ret
    exact ⟨rfl, HB_2.out⟩
  have HL1 := Lib.hid (show x1.length ≤ 1048576 from by have h9 := HLB1.out.2; have h8 := (szSS_bd (left := (szLTk 1048576 x0)) HLB1.out.1 (Int.not_lt.1 hs1)).1; omega)
  have HLR1 := Lib.hid (show ∀ r ∈ x1, r.length ≤ 1048576 from fun r hr => by have h9 := HLB1.out.2; have h8 := (szSS_bd (left := (szLTk 1048576 x0)) HLB1.out.1 (Int.not_lt.1 hs1)).2 r hr; omega)
  go_enter Try.func9, Try.ntmps9
  go_wp2_with fail
  have R0_0 := Lib.hid (show TkR w A0 x0 from HR0.out)
  have R1_0 := Lib.hid (show RowsR w A1 x1 from HR1.out)
  go_wp2_with fail
  (with_reducible refine (szDustingS_any A0 C0 x0 (1048576) _ R0_0.out HLL0.out (by omega)).mono ?_)
  rintro e w1 ⟨rfl, hd1⟩
  have HB_1 := Lib.hid (show Below w.heap.size w w1 from hd1)
  have R0_1 := Lib.hid (show TkR w1 A0 x0 from TkR.below R0_0.out hd1)
  have R1_1 := Lib.hid (show RowsR w1 A1 x1 from RowsR.below R1_0.out hd1)
  clear R0_0 R1_0
  clear hd1
  go_wp2_with fail
  (with_reducible refine (szInt64SS_any A1 C1 x1 (szLTk 1048576 x0) _ R1_1.out S1.out HLL1.out HLB1.out).mono ?_)
  rintro e w2 ⟨rfl, hd2⟩
  have HB_2 := Lib.hid (show Below w.heap.size w w2 from HB_1.out.trans (hd2.mono HB_1.out.size))
  have R0_2 := Lib.hid (show TkR w2 A0 x0 from TkR.below R0_1.out hd2)
  have R1_2 := Lib.hid (show RowsR w2 A1 x1 from RowsR.below R1_1.out hd2)
  clear R0_1 R1_1
  clear hd2
  go_wp2_with fail
  (with_reducible refine (toDustingS_any A0 C0 x0 _ R0_2.out HL0.out).mono ?_)
  rintro e w3 ⟨gs0, rfl, hk3, hg3, hd3⟩
  have HB_3 := Lib.hid (show Below w.heap.size w w3 from HB_2.out.trans (hd3.mono HB_2.out.size))
  have R0_3 := Lib.hid (show TkR w3 A0 x0 from TkR.below R0_2.out hd3)
  have R1_3 := Lib.hid (show RowsR w3 A1 x1 from RowsR.below R1_2.out hd3)
  clear R0_2 R1_2
  have Ks0_3 := Lib.hid (show BlkV w3 gs0 25 (tkV x0) from hk3)
  clear hk3 hg3
  clear hd3
  go_wp2_with fail
  (with_reducible refine (toInt64SS_own A1 C1 x1 _ R1_3.out HL1.out HLR1.out).mono ?_)
  rintro e w4 ⟨gs1, rfl, hk4, hd4⟩
  have HB_4 := Lib.hid (show Below w.heap.size w w4 from HB_3.out.trans (hd4.mono HB_3.out.size))
  have R0_4 := Lib.hid (show TkR w4 A0 x0 from TkR.below R0_3.out hd4)
  have R1_4 := Lib.hid (show RowsR w4 A1 x1 from RowsR.below R1_3.out hd4)
  have Ks0_4 := Lib.hid (show BlkV w4 gs0 25 (tkV x0) from Ks0_3.out.below hd4 Ks0_3.out.lt)
  clear R0_3 R1_3 Ks0_3
  have Ks1_4 := Lib.hid (show RowsR w4 (some ⟨gs1, 0, none⟩) x1 from hk4.rows)
  clear hk4
  clear hd4
  go_wp2_with fail
  (with_reducible refine (sExposureOf_any (some ⟨gs0, 0, none⟩) x0.length x0 (some ⟨gs1, 0, none⟩) x1.length x1 _ (Ks0_4.out.tkR) HL0.out Ks1_4.out HL1.out HLR1.out).mono ?_)
  rintro e w5 ⟨rfl, hd5⟩
  have HB_5 := Lib.hid (show Below w.heap.size w w5 from HB_4.out.trans (hd5.mono HB_4.out.size))
  have R0_5 := Lib.hid (show TkR w5 A0 x0 from TkR.below R0_4.out hd5)
  have R1_5 := Lib.hid (show RowsR w5 A1 x1 from RowsR.below R1_4.out hd5)
  have Ks0_5 := Lib.hid (show BlkV w5 gs0 25 (tkV x0) from Ks0_4.out.below hd5 Ks0_4.out.lt)
  have Ks1_5 := Lib.hid (show RowsR w5 (some ⟨gs1, 0, none⟩) x1 from Ks1_4.out.below hd5)
  clear R0_4 R1_4 Ks0_4 Ks1_4
  clear hd5
  go_wp2_with fail
  (with_reducible refine (toDustingS_any A0 C0 x0 _ R0_5.out HL0.out).mono ?_)
  rintro e w6 ⟨gx0, rfl, hk6, hg6, hd6⟩
  have HB_6 := Lib.hid (show Below w.heap.size w w6 from HB_5.out.trans (hd6.mono HB_5.out.size))
  have R0_6 := Lib.hid (show TkR w6 A0 x0 from TkR.below R0_5.out hd6)
  have R1_6 := Lib.hid (show RowsR w6 A1 x1 from RowsR.below R1_5.out hd6)
  clear R0_5 R1_5
  have Kx0_6 := Lib.hid (show BlkV w6 gx0 25 (tkV x0) from hk6)
  clear hk6 hg6
  clear hd6
  go_wp2_with fail
  (with_reducible refine (toInt64SS_own A1 C1 x1 _ R1_6.out HL1.out HLR1.out).mono ?_)
  rintro e w7 ⟨gx1, rfl, hk7, hd7⟩
  have HB_7 := Lib.hid (show Below w.heap.size w w7 from HB_6.out.trans (hd7.mono HB_6.out.size))
  have R0_7 := Lib.hid (show TkR w7 A0 x0 from TkR.below R0_6.out hd7)
  have R1_7 := Lib.hid (show RowsR w7 A1 x1 from RowsR.below R1_6.out hd7)
  have Kx0_7 := Lib.hid (show BlkV w7 gx0 25 (tkV x0) from Kx0_6.out.below hd7 Kx0_6.out.lt)
  clear R0_6 R1_6 Kx0_6
  have Kx1_7 := Lib.hid (show RowsR w7 (some ⟨gx1, 0, none⟩) x1 from hk7.rows)
  clear hk7
  clear hd7
  go_wp2_with fail
  (with_reducible refine (iExposureOf_any (some ⟨gx0, 0, none⟩) x0.length x0 (some ⟨gx1, 0, none⟩) x1.length x1 _ (Kx0_7.out.tkR) HL0.out Kx1_7.out HL1.out HLR1.out).mono ?_)
  rintro e w8 ⟨rfl, hd8⟩
  have HB_8 := Lib.hid (show Below w.heap.size w w8 from HB_7.out.trans (hd8.mono HB_7.out.size))
  have R0_8 := Lib.hid (show TkR w8 A0 x0 from TkR.below R0_7.out hd8)
  have R1_8 := Lib.hid (show RowsR w8 A1 x1 from RowsR.below R1_7.out hd8)
  have Kx0_8 := Lib.hid (show BlkV w8 gx0 25 (tkV x0) from Kx0_7.out.below hd8 Kx0_7.out.lt)
  have Kx1_8 := Lib.hid (show RowsR w8 (some ⟨gx1, 0, none⟩) x1 from Kx1_7.out.below hd8)
  clear R0_7 R1_7 Kx0_7 Kx1_7
  clear hd8
  go_wp2_with fail
  (with_reducible refine (toDustingS_any A0 C0 x0 _ R0_8.out HL0.out).mono ?_)
  rintro e w9 ⟨gy0, rfl, hk9, hg9, hd9⟩
  have HB_9 := Lib.hid (show Below w.heap.size w w9 from HB_8.out.trans (hd9.mono HB_8.out.size))
  have R0_9 := Lib.hid (show TkR w9 A0 x0 from TkR.below R0_8.out hd9)
  have R1_9 := Lib.hid (show RowsR w9 A1 x1 from RowsR.below R1_8.out hd9)
  have Kx0_9 := Lib.hid (show BlkV w9 gx0 25 (tkV x0) from Kx0_8.out.below hd9 Kx0_8.out.lt)
  have Kx1_9 := Lib.hid (show RowsR w9 (some ⟨gx1, 0, none⟩) x1 from Kx1_8.out.below hd9)
  clear R0_8 R1_8 Kx0_8 Kx1_8
  have Ky0_9 := Lib.hid (show BlkV w9 gy0 25 (tkV x0) from hk9)
  clear hk9 hg9
  clear hd9
  go_wp2_with fail
  (with_reducible refine (eqDustingS_same (some ⟨gx0, 0, none⟩) (some ⟨gy0, 0, none⟩) x0.length x0.length x0 _ (Kx0_9.out.tkR) (Ky0_9.out.tkR) HL0.out).mono ?_)
  rintro e w10 ⟨rfl, hd10⟩
  have HB_10 := Lib.hid (show Below w.heap.size w w10 from HB_9.out.trans (hd10.mono HB_9.out.size))
  have R0_10 := Lib.hid (show TkR w10 A0 x0 from TkR.below R0_9.out hd10)
  have R1_10 := Lib.hid (show RowsR w10 A1 x1 from RowsR.below R1_9.out hd10)
  have Kx0_10 := Lib.hid (show BlkV w10 gx0 25 (tkV x0) from Kx0_9.out.below hd10 Kx0_9.out.lt)
  have Kx1_10 := Lib.hid (show RowsR w10 (some ⟨gx1, 0, none⟩) x1 from Kx1_9.out.below hd10)
  have Ky0_10 := Lib.hid (show BlkV w10 gy0 25 (tkV x0) from Ky0_9.out.below hd10 Ky0_9.out.lt)
  clear R0_9 R1_9 Kx0_9 Kx1_9 Ky0_9
  clear hd10
  go_wp2_with fail
  (with_reducible refine (toInt64SS_own A1 C1 x1 _ R1_10.out HL1.out HLR1.out).mono ?_)
  rintro e w11 ⟨gy1, rfl, hk11, hd11⟩
  have HB_11 := Lib.hid (show Below w.heap.size w w11 from HB_10.out.trans (hd11.mono HB_10.out.size))
  have R0_11 := Lib.hid (show TkR w11 A0 x0 from TkR.below R0_10.out hd11)
  have R1_11 := Lib.hid (show RowsR w11 A1 x1 from RowsR.below R1_10.out hd11)
  have Kx0_11 := Lib.hid (show BlkV w11 gx0 25 (tkV x0) from Kx0_10.out.below hd11 Kx0_10.out.lt)
  have Kx1_11 := Lib.hid (show RowsR w11 (some ⟨gx1, 0, none⟩) x1 from Kx1_10.out.below hd11)
  clear R0_10 R1_10 Kx0_10 Kx1_10
  have Ky1_11 := Lib.hid (show RowsR w11 (some ⟨gy1, 0, none⟩) x1 from hk11.rows)
  clear hk11
  clear hd11
  go_wp2_with fail
  (with_reducible refine (eqInt64SS_w (some ⟨gx1, 0, none⟩) (some ⟨gy1, 0, none⟩) x1.length x1.length x1 _ Kx1_11.out Ky1_11.out HL1.out HLR1.out).mono ?_)
  rintro e w12 ⟨rfl, hd12⟩
  have HB_12 := Lib.hid (show Below w.heap.size w w12 from HB_11.out.trans (hd12.mono HB_11.out.size))
  have R0_12 := Lib.hid (show TkR w12 A0 x0 from TkR.below R0_11.out hd12)
  have R1_12 := Lib.hid (show RowsR w12 A1 x1 from RowsR.below R1_11.out hd12)
  have Kx0_12 := Lib.hid (show BlkV w12 gx0 25 (tkV x0) from Kx0_11.out.below hd12 Kx0_11.out.lt)
  have Kx1_12 := Lib.hid (show RowsR w12 (some ⟨gx1, 0, none⟩) x1 from Kx1_11.out.below hd12)
  have Ky1_12 := Lib.hid (show RowsR w12 (some ⟨gy1, 0, none⟩) x1 from Ky1_11.out.below hd12)
  clear R0_11 R1_11 Kx0_11 Kx1_11 Ky1_11
  clear hd12
  go_wp2
  go_ret
  exact ⟨rfl, HB_12.out⟩

set_option maxHeartbeats 1000000 in
set_option maxRecDepth 100000 in
theorem contract (H : Type) (enc : TypeId × Value → H) (W : World) (base : Nat) (args : Array Value) (ds gs : List (DataW H)) (before : List MemPlace)
    (hval : ∀ (j : Nat) t v, Try.f9.params[j]? = some t → args[j]? = some v → Value.okWide Try.prog W .any base t v)
    (hW : DataW.Whole enc Try.prog Try.f9.params.toList Rows.fnExactExposureOfSpec.vars false W args.toList ds gs before) :
    Calls Try.prog 9 args W fun e W' => ∃ v, e = .returned v ∧ Rows.fnExactExposureOfSpec.post enc Try.prog Try.f9 false true false false W args v W' := by
  have hW' := hW
  obtain ⟨p, q, hA0, hV, rfl, hfz, hnd⟩ := hW
  have hA : DataW.TrodAll enc Try.prog W 0 (fun _ => true) true Try.f9.params.toList args.toList ds p := hA0
  rw [Try.params9] at hA hval
  obtain ⟨v0, vs0, d0, ds0, p0, q0, hargs, rfl, rfl, h0, r0⟩ := trodAll_cons hA
  obtain ⟨v1, vs1, d1, ds1, p1, q1, rfl, rfl, rfl, h1, r1⟩ := trodAll_cons r0
  obtain ⟨rfl, rfl, rfl⟩ := trodAll_nil r1
  obtain rfl : args = #[v0, v1] := by cases args; simp_all
  obtain ⟨rfl, rfl⟩ := trodVars_none hV
  obtain ⟨a0, len0, cap0, rfl⟩ := okWide_slice Try.underlying28 (hval 0 28 v0 rfl rfl)
  have k0 := h0
  have lt0 : ∀ x ∈ p0, x.block < W.heap.size := by obtain ⟨m, hm⟩ := k0; exact DataW.trod_lt m _ _ _ hm
  obtain ⟨fu0, ho0⟩ := h0
  obtain ⟨A0, C0, x0, qx0, lx0, rx0, fx0⟩ := open_tks ho0
  simp only [Value.cells] at qx0
  obtain ⟨rfl, rfl, rfl⟩ : a0 = A0 ∧ len0 = x0.length ∧ cap0 = C0 := by simpa using qx0
  obtain ⟨a1, len1, cap1, rfl⟩ := okWide_slice Try.underlying49 (hval 1 49 v1 rfl rfl)
  have k1 := h1
  have lt1 : ∀ x ∈ p1, x.block < W.heap.size := by obtain ⟨m, hm⟩ := k1; exact DataW.trod_lt m _ _ _ hm
  obtain ⟨fu1, ho1⟩ := h1
  obtain ⟨A1, C1, x1, qx1, lx1, rx1, fx1⟩ := open_rows ho1
  simp only [Value.cells] at qx1
  obtain ⟨rfl, rfl, rfl⟩ : a1 = A1 ∧ len1 = x1.length ∧ cap1 = C1 := by simpa using qx1
  clear hA0
  refine (walk W a0 cap0 x0 lx0 rx0 fx0 a1 cap1 x1 lx1 rx1 fx1).mono fun e W' ⟨he, bel⟩ => ?_
  subst he
  exact ⟨_, rfl, _, _, _, [], _, [], hW', trodAll_mk1 (shut_bool Try.underlying4 _), (trodAll_cons_mk (Below.trod laidOut (by kernel_rfl) (of_decide_eq_true (by kernel_rfl)) k0 bel lt0) (trodAll_cons_mk (Below.trod laidOut (by kernel_rfl) (of_decide_eq_true (by kernel_rfl)) k1 bel lt1) trodAll_mk0)), rfl, bel.frame _, fun h => by cases h⟩

set_option maxRecDepth 100000 in
theorem lifted (os : Os) (started : os.Started) (H : Type) (enc : TypeId × Value → H) :
    ReturnsInHanded {} Try.checked os 9 .any (Rows.fnExactExposureOfSpec.pre6 enc Try.prog Try.f9 Rows.fnExactExposureOfRow.domain false) (Rows.fnExactExposureOfSpec.post enc Try.prog Try.f9 false true false false) := by
  refine returnsInHanded_of_change (C := Try.checked) own started (by kernel_rfl) Try.func9
    (ChangeSpec.witness6 (enc := enc) (C := Try.checked) false ⟨#[], #[.slice none 0 0, .slice none 0 0], []⟩ 8 (by kernel_rfl) (by kernel_rfl) (by kernel_rfl) (by kernel_rfl)) ?_
  intro W base args ds gs before hval hW hcnd _
  exact contract H enc W base args ds gs before hval hW

set_option maxHeartbeats 4000000 in
theorem facts : joinedFacts Try.pinned.checked.prog 9 Try.f9 Rows.fnExactExposureOfSpec Rows.fnExactExposureOfRow = true := by
  unfold joinedFacts
  simp only [Bool.and_eq_true]
  repeat' apply And.intro
  all_goals first
    | (with_reducible exact fxMay)
    | (rw [fxLifts]; as_aux_lemma => kernel_rfl)
    | (rw [fxMake]; as_aux_lemma => kernel_rfl)
    | (as_aux_lemma => kernel_rfl)
theorem proved : Rows.FnExactExposureOfSaid :=
  OpenClaim.holds_of_wide 9 Try.f9 rfl rfl rfl rfl rfl rfl rfl ⟨rfl, rfl, rfl, rfl, rfl⟩ rfl rfl rfl rfl rfl (by kernel_rfl) Try.func9 facts
    (of_decide_eq_true (by kernel_rfl)) (by unfold Func.isWrapper; first | (rw [if_pos (by decide +kernel)]; kernel_rfl) | (rw [if_neg (by decide +kernel)]; exact ⟨rfl, rfl⟩))
    (fun os started H enc _ => lifted os started H enc)
#print axioms proved
end Go.Proofs.Ytnlkikdgffaeeaa.fnExactExposureOf
