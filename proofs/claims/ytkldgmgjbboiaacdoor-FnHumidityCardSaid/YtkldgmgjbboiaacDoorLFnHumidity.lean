/-
  PROVED: for every input the function laws.FnHumidity returns true and leaves its arguments as they were. Conditions: the package-level variables that the row lists hold what the program text lays (the card ties them).
-/
import Derived.Test.YtkldgmgjbboiaacDoorCards
import Derived.Test.YtkldgmgjbboiaacDoorTie
import Derived.Test.YtkldgmgjbboiaacDoorId
import Derived.WalkKit
import Derived.ProofKit
import Derived.OpenShut
import Derived.ShutString
import Derived.ChangeOld
import Derived.Below
import Derived.Carry
import Derived.OpenVars
import Derived.ChangeVars
import Derived.Deep.DeepHandedRow
import Derived.Lib.LaidTab
import Derived.MakeChecks
import Derived.Stop.LaidErr
namespace Go.Proofs.YtkldgmgjbboiaacDoor.fnHumidity
open Go.ChangeShapes Go.WideShapes Go.ChangeAt Go.RowKit
open Go.ChangeMaps (open_string shut_string)

set_option linter.unusedVariables false

theorem own : ownKnob Tryd.prog.godebug = none := by kernel_rfl
theorem laidOut : laidOutB Tryd.prog = true := by kernel_rfl
theorem gSat : Tryd.prog.globalNamed "loop.example/g01021/impl.saturations" = some 0 := by kernel_rfl
theorem gSatType : (Tryd.prog.globals[0]?).map (·.type) = some 78 := by kernel_rfl
theorem cellsSat : Tryd.prog.cellsOf 78 = 15 := by kernel_rfl
theorem cellsSatE : Tryd.prog.cellsOf 2 = 1 := by kernel_rfl
theorem table {W : World} (h : laidMetH Tryd.prog Rows.fnHumidityRow.laid W) : Sat W := by
  rw [Go.MakeChecks.laidMetH_plain _ _ _ (by kernel_rfl)] at h
  have ht : Lib.TabIs Tryd.prog W "loop.example/g01021/impl.saturations" .i64 satTab :=
    Lib.tabIs_of_head (rest := _) gSat gSatType Tryd.underlying78 Tryd.underlying2 cellsSatE cellsSat h
  intro j hj
  have := World.var?_cell gSat ht j
  rw [this]
  match j, hj with
  | 0, _ | 1, _ | 2, _ | 3, _ | 4, _ | 5, _ | 6, _ | 7, _ | 8, _ | 9, _ | 10, _ | 11, _ | 12, _ | 13, _ | 14, _ => rfl
set_option maxRecDepth 100000 in
set_option maxHeartbeats 4000000 in
theorem walk (w : World) (a0 : Option Addr) (len0 cap0 : Nat) (z0 : List Int) (w0 : IsRow .u8 w a0 len0 cap0 z0) (a1 : Option Addr) (len1 cap1 : Nat) (z1 : List Int) (w1 : IsRow .u8 w a1 len1 cap1 z1) (hL : laidMetH Tryd.prog Rows.fnHumidityRow.laid w) :
    Calls Tryd.prog 8 #[.slice a0 len0 cap0, .slice a1 len1 cap1] w fun e w' => e = .returned (.bool true) ∧ Below w.heap.size w w' := by
  have HT := Lib.hid (table hL)
  clear hL
  have hm0 := w0.len
  have hm1 := w1.len
  have HY0 := Lib.hid w0.bytB
  have HY1 := Lib.hid w1.bytB
  clear w0 w1
  have HB0 := Lib.hid (Below.refl w.heap.size w)
  by_cases hl0 : len0 ≤ 1048576
  · have HL0 := Lib.hid hl0
    by_cases hl1 : len1 ≤ 1048576
    · have HL1 := Lib.hid hl1
      clear hl0 hl1 hm0 hm1
      go_enter Tryd.func8, Tryd.ntmps8
      go_wp2_with (first
      | (go_at_call 33; (with_reducible refine (b10_no a0 len0 cap0 w HL0.out).mono ?_); rintro e w' ⟨rfl, rfl⟩)
      | (go_at_call 33; (with_reducible refine (b10_no a1 len1 cap1 w HL1.out).mono ?_); rintro e w' ⟨rfl, rfl⟩))
      refine (DrawDewPoint_any a0 len0 cap0 w HY0.out HL0.out).mono ?_
      rintro e w2 ⟨t, h, ht, hh, rfl, hd2⟩
      have HB2 := Lib.hid hd2
      clear hd2
      cases hok : (inB t (-100) 600 && inB h 0 1000)
      · have HD := Lib.hid (show dwA t h = 0 ∧ dwB t h = 2 by simp [dwA, dwB, hok])
        have HV := Lib.hid (show vaA t h = 0 ∧ vaB t h = 2 by simp [vaA, vaB, hok])
        clear hok
        go_wp2_with fail
        refine (iDew_eq t h 0 2 w2 (HT.out.below HB2.out) HD.out.1 HD.out.2).mono ?_
        rintro e w3 ⟨rfl, hd3⟩
        have HB3 := Lib.hid (HB2.out.trans (hd3.mono HB2.out.size))
        clear hd3
        go_wp2_with fail
        refine (iVap_eq t h 0 2 w3 (HT.out.below HB3.out) HV.out.1 HV.out.2).mono ?_
        rintro e w4 ⟨rfl, hd4⟩
        have HB4 := Lib.hid (HB3.out.trans (hd4.mono HB3.out.size))
        clear hd4
        go_wp2_with fail
        refine (DrawHumidityFor_any a1 len1 cap1 w4 (((HY1.out.below HB4.out).mono HB4.out.size)) HL1.out).mono ?_
        rintro e w7 ⟨dry, wet, p, hdry, hwet, hp, rfl, hd7⟩
        have HB7 := Lib.hid (HB4.out.trans (hd7.mono HB4.out.size))
        clear hd7
        obtain ⟨X, hX⟩ : ∃ X, huA dry wet p = X := ⟨_, rfl⟩
        obtain ⟨Y, hY⟩ : ∃ Y, huB dry wet p = Y := ⟨_, rfl⟩
        obtain ⟨X2, hX2⟩ : ∃ X2, huA dry dry p = X2 := ⟨_, rfl⟩
        obtain ⟨Y2, hY2⟩ : ∃ Y2, huB dry dry p = Y2 := ⟨_, rfl⟩
        have hcs := hum_cases dry wet p
        rw [hX, hY, hX2, hY2] at hcs
        have HX := Lib.hid hX
        have HYY := Lib.hid hY
        have HX2 := Lib.hid hX2
        have HY2 := Lib.hid hY2
        clear hX hY hX2 hY2
        have HC := Lib.hid hcs
        clear hcs
        go_wp2_with fail
        refine (iHum_eq dry wet p X Y w7 (HT.out.below HB7.out) HX.out HYY.out).mono ?_
        rintro e w8 ⟨rfl, hd8⟩
        have HB8 := Lib.hid (HB7.out.trans (hd8.mono HB7.out.size))
        clear hd8
        go_wp2_with fail
        refine (iHum_eq dry dry p X2 Y2 w8 (HT.out.below HB8.out) HX2.out HY2.out).mono ?_
        rintro e w9 ⟨rfl, hd9⟩
        have HB9 := Lib.hid (HB8.out.trans (hd9.mono HB8.out.size))
        clear hd9
        rcases HC.out with ⟨hY0, rfl⟩ | ⟨rfl, ⟨hX0, hX1⟩, rfl, rfl⟩
        · have t1 : (Y != 0) = true := bne_iff_ne.2 hY0
          have t2 : (Y == 0) = false := by simpa using hY0
          clear hY0
          go_wp2
          go_ret
          exact ⟨rfl, HB9.out⟩
        · go_wp2
          go_ret
          exact ⟨rfl, HB9.out⟩
      · have k1 := inB_iff.1 (Bool.and_eq_true _ _ |>.mp hok).1
        have k2 := inB_iff.1 (Bool.and_eq_true _ _ |>.mp hok).2
        obtain ⟨V, hV⟩ : ∃ V, vapR t h = V := ⟨_, rfl⟩
        have HV := Lib.hid (show vaA t h = V ∧ vaB t h = 0 by simp [vaA, vaB, hok, hV])
        by_cases hv : V < 286
        · have HD := Lib.hid (show dwA t h = 0 ∧ dwB t h = 3 by simp [dwA, dwB, hok, hV, hv])
          clear hok hV
          go_wp2_with fail
          refine (iDew_eq t h 0 3 w2 (HT.out.below HB2.out) HD.out.1 HD.out.2).mono ?_
          rintro e w3 ⟨rfl, hd3⟩
          have HB3 := Lib.hid (HB2.out.trans (hd3.mono HB2.out.size))
          clear hd3
          go_wp2_with fail
          refine (iVap_eq t h V 0 w3 (HT.out.below HB3.out) HV.out.1 HV.out.2).mono ?_
          rintro e w4 ⟨rfl, hd4⟩
          have HB4 := Lib.hid (HB3.out.trans (hd4.mono HB3.out.size))
          clear hd4
          go_wp2_with fail
          refine (DrawHumidityFor_any a1 len1 cap1 w4 (((HY1.out.below HB4.out).mono HB4.out.size)) HL1.out).mono ?_
          rintro e w7 ⟨dry, wet, p, hdry, hwet, hp, rfl, hd7⟩
          have HB7 := Lib.hid (HB4.out.trans (hd7.mono HB4.out.size))
          clear hd7
          obtain ⟨X, hX⟩ : ∃ X, huA dry wet p = X := ⟨_, rfl⟩
          obtain ⟨Y, hY⟩ : ∃ Y, huB dry wet p = Y := ⟨_, rfl⟩
          obtain ⟨X2, hX2⟩ : ∃ X2, huA dry dry p = X2 := ⟨_, rfl⟩
          obtain ⟨Y2, hY2⟩ : ∃ Y2, huB dry dry p = Y2 := ⟨_, rfl⟩
          have hcs := hum_cases dry wet p
          rw [hX, hY, hX2, hY2] at hcs
          have HX := Lib.hid hX
          have HYY := Lib.hid hY
          have HX2 := Lib.hid hX2
          have HY2 := Lib.hid hY2
          clear hX hY hX2 hY2
          have HC := Lib.hid hcs
          clear hcs
          go_wp2_with fail
          refine (iHum_eq dry wet p X Y w7 (HT.out.below HB7.out) HX.out HYY.out).mono ?_
          rintro e w8 ⟨rfl, hd8⟩
          have HB8 := Lib.hid (HB7.out.trans (hd8.mono HB7.out.size))
          clear hd8
          go_wp2_with fail
          refine (iHum_eq dry dry p X2 Y2 w8 (HT.out.below HB8.out) HX2.out HY2.out).mono ?_
          rintro e w9 ⟨rfl, hd9⟩
          have HB9 := Lib.hid (HB8.out.trans (hd9.mono HB8.out.size))
          clear hd9
          rcases HC.out with ⟨hY0, rfl⟩ | ⟨rfl, ⟨hX0, hX1⟩, rfl, rfl⟩
          · have t1 : (Y != 0) = true := bne_iff_ne.2 hY0
            have t2 : (Y == 0) = false := by simpa using hY0
            clear hY0
            go_wp2
            go_ret
            exact ⟨rfl, HB9.out⟩
          · go_wp2
            go_ret
            exact ⟨rfl, HB9.out⟩
        · obtain ⟨d, hd⟩ : ∃ d : Int, -100 + (dewM V : Int) = d := ⟨_, rfl⟩
          have HD := Lib.hid (show dwA t h = d ∧ dwB t h = 0 by simp [dwA, dwB, hok, hV, hv, ← hd])
          have hvl := vap_le k1 k2
          rw [hV] at hvl
          obtain ⟨s1, s2, s3⟩ := dew_spec V t k1 hvl
          have hdb : -100 ≤ d ∧ d ≤ t := by omega
          obtain ⟨S, hS⟩ : ∃ S, satR d = S := ⟨_, rfl⟩
          have hSV : V ≤ S := by
            have := s3 (dewM V) (Nat.le_refl _) (by omega)
            rw [hd, hS] at this; exact this
          obtain ⟨S2, hS2⟩ : ∃ S2, satR (d - 1) = S2 := ⟨_, rfl⟩
          have hSV2 : -100 < d → S2 < V := fun hlt => by
            have := s2 (dewM V - 1) (by omega)
            rw [show -100 + ((dewM V - 1 : Nat) : Int) = d - 1 by omega, hS2] at this; exact this
          have HSV2 := Lib.hid hSV2
          have HS := Lib.hid hS
          have HS2 := Lib.hid hS2
          clear hok hV hd s1 s2 s3 hS hS2 hSV2
          go_wp2_with fail
          refine (iDew_eq t h d 0 w2 (HT.out.below HB2.out) HD.out.1 HD.out.2).mono ?_
          rintro e w3 ⟨rfl, hd3⟩
          have HB3 := Lib.hid (HB2.out.trans (hd3.mono HB2.out.size))
          clear hd3
          go_wp2_with fail
          refine (iVap_eq t h V 0 w3 (HT.out.below HB3.out) HV.out.1 HV.out.2).mono ?_
          rintro e w4 ⟨rfl, hd4⟩
          have HB4 := Lib.hid (HB3.out.trans (hd4.mono HB3.out.size))
          clear hd4
          go_wp2_with fail
          refine (iSat_eq d S w4 (HT.out.below HB4.out) (by omega) HS.out).mono ?_
          rintro e w5 ⟨rfl, hd5⟩
          have HB5 := Lib.hid (HB4.out.trans (hd5.mono HB4.out.size))
          clear hd5
          by_cases hlt : -100 < d
          · have hq := HSV2.out hlt
            go_wp2_with fail
            refine (iSat_eq (d - 1) S2 w5 (HT.out.below HB5.out) (by omega) HS2.out).mono ?_
            rintro e w6 ⟨rfl, hd6⟩
            have HB6 := Lib.hid (HB5.out.trans (hd6.mono HB5.out.size))
            clear hd6
            go_wp2_with fail
            refine (DrawHumidityFor_any a1 len1 cap1 w6 (((HY1.out.below HB6.out).mono HB6.out.size)) HL1.out).mono ?_
            rintro e w7 ⟨dry, wet, p, hdry, hwet, hp, rfl, hd7⟩
            have HB7 := Lib.hid (HB6.out.trans (hd7.mono HB6.out.size))
            clear hd7
            obtain ⟨X, hX⟩ : ∃ X, huA dry wet p = X := ⟨_, rfl⟩
            obtain ⟨Y, hY⟩ : ∃ Y, huB dry wet p = Y := ⟨_, rfl⟩
            obtain ⟨X2, hX2⟩ : ∃ X2, huA dry dry p = X2 := ⟨_, rfl⟩
            obtain ⟨Y2, hY2⟩ : ∃ Y2, huB dry dry p = Y2 := ⟨_, rfl⟩
            have hcs := hum_cases dry wet p
            rw [hX, hY, hX2, hY2] at hcs
            have HX := Lib.hid hX
            have HYY := Lib.hid hY
            have HX2 := Lib.hid hX2
            have HY2 := Lib.hid hY2
            clear hX hY hX2 hY2
            have HC := Lib.hid hcs
            clear hcs
            go_wp2_with fail
            refine (iHum_eq dry wet p X Y w7 (HT.out.below HB7.out) HX.out HYY.out).mono ?_
            rintro e w8 ⟨rfl, hd8⟩
            have HB8 := Lib.hid (HB7.out.trans (hd8.mono HB7.out.size))
            clear hd8
            go_wp2_with fail
            refine (iHum_eq dry dry p X2 Y2 w8 (HT.out.below HB8.out) HX2.out HY2.out).mono ?_
            rintro e w9 ⟨rfl, hd9⟩
            have HB9 := Lib.hid (HB8.out.trans (hd9.mono HB8.out.size))
            clear hd9
            rcases HC.out with ⟨hY0, rfl⟩ | ⟨rfl, ⟨hX0, hX1⟩, rfl, rfl⟩
            · have t1 : (Y != 0) = true := bne_iff_ne.2 hY0
              have t2 : (Y == 0) = false := by simpa using hY0
              clear hY0
              go_wp2
              go_ret
              exact ⟨rfl, HB9.out⟩
            · go_wp2
              go_ret
              exact ⟨rfl, HB9.out⟩
          · clear HSV2
            go_wp2_with fail
            refine (DrawHumidityFor_any a1 len1 cap1 w5 (((HY1.out.below HB5.out).mono HB5.out.size)) HL1.out).mono ?_
            rintro e w7 ⟨dry, wet, p, hdry, hwet, hp, rfl, hd7⟩
            have HB7 := Lib.hid (HB5.out.trans (hd7.mono HB5.out.size))
            clear hd7
            obtain ⟨X, hX⟩ : ∃ X, huA dry wet p = X := ⟨_, rfl⟩
            obtain ⟨Y, hY⟩ : ∃ Y, huB dry wet p = Y := ⟨_, rfl⟩
            obtain ⟨X2, hX2⟩ : ∃ X2, huA dry dry p = X2 := ⟨_, rfl⟩
            obtain ⟨Y2, hY2⟩ : ∃ Y2, huB dry dry p = Y2 := ⟨_, rfl⟩
            have hcs := hum_cases dry wet p
            rw [hX, hY, hX2, hY2] at hcs
            have HX := Lib.hid hX
            have HYY := Lib.hid hY
            have HX2 := Lib.hid hX2
            have HY2 := Lib.hid hY2
            clear hX hY hX2 hY2
            have HC := Lib.hid hcs
            clear hcs
            go_wp2_with fail
            refine (iHum_eq dry wet p X Y w7 (HT.out.below HB7.out) HX.out HYY.out).mono ?_
            rintro e w8 ⟨rfl, hd8⟩
            have HB8 := Lib.hid (HB7.out.trans (hd8.mono HB7.out.size))
            clear hd8
            go_wp2_with fail
            refine (iHum_eq dry dry p X2 Y2 w8 (HT.out.below HB8.out) HX2.out HY2.out).mono ?_
            rintro e w9 ⟨rfl, hd9⟩
            have HB9 := Lib.hid (HB8.out.trans (hd9.mono HB8.out.size))
            clear hd9
            rcases HC.out with ⟨hY0, rfl⟩ | ⟨rfl, ⟨hX0, hX1⟩, rfl, rfl⟩
            · have t1 : (Y != 0) = true := bne_iff_ne.2 hY0
              have t2 : (Y == 0) = false := by simpa using hY0
              clear hY0
              go_wp2
              go_ret
              exact ⟨rfl, HB9.out⟩
            · go_wp2
              go_ret
              exact ⟨rfl, HB9.out⟩
    · have h1 : 1048576 < len1 := by omega
      clear hl0 hl1
      go_enter Tryd.func8, Tryd.ntmps8
      go_wp2_with (first
        | (go_at_call 33; (with_reducible refine (b10_no a0 len0 cap0 w HL0.out).mono ?_); rintro e w' ⟨rfl, rfl⟩)
        | (go_at_call 33; (with_reducible refine (b10_yes a1 len1 cap1 w h1 hm1).mono ?_); rintro e w' ⟨rfl, rfl⟩))
      go_ret
      exact ⟨rfl, Below.refl _ _⟩
  · have h1 : 1048576 < len0 := by omega
    clear hl0
    go_enter Tryd.func8, Tryd.ntmps8
    go_wp2_with (go_at_call 33; (with_reducible refine (b10_yes a0 len0 cap0 w h1 hm0).mono ?_); rintro e w' ⟨rfl, rfl⟩)
    go_ret
    exact ⟨rfl, Below.refl _ _⟩

set_option maxRecDepth 100000 in
theorem contract (H : Type) (enc : TypeId × Value → H) (W : World) (base : Nat) (args : Array Value) (ds gs : List (DataW H)) (before : List MemPlace)
    (hval : ∀ (j : Nat) t v, Tryd.f8.params[j]? = some t → args[j]? = some v → Value.okWide Tryd.prog W .any base t v)
    (hW : DataW.Whole enc Tryd.prog Tryd.f8.params.toList Rows.fnHumiditySpec.vars false W args.toList ds gs before) (hL : laidMetH Tryd.prog Rows.fnHumidityRow.laid W) :
    Calls Tryd.prog 8 args W fun e W' => ∃ v, e = .returned v ∧ Rows.fnHumiditySpec.post enc Tryd.prog Tryd.f8 false true false false W args v W' := by
  have hW' := hW
  obtain ⟨p, q, hA0, hV, rfl, hfz, hnd⟩ := hW
  have hA : DataW.TrodAll enc Tryd.prog W 0 (fun _ => true) true Tryd.f8.params.toList args.toList ds p := hA0
  rw [Tryd.params8] at hA hval
  obtain ⟨v0, vs0, d0, ds0, p0, q0, hargs, rfl, rfl, h0, r0⟩ := trodAll_cons hA
  obtain ⟨v1, vs1, d1, ds1, p1, q1, rfl, rfl, rfl, h1, r1⟩ := trodAll_cons r0
  obtain ⟨rfl, rfl, rfl⟩ := trodAll_nil r1
  obtain rfl : args = #[v0, v1] := by cases args; simp_all
  have hV1 := hV
  obtain ⟨gg0, tt0, cc0, ff0, dd0, pp0, rfl, -⟩ := trodVars_one hV1
  obtain ⟨a0, len0, cap0, rfl⟩ := okWide_slice Tryd.underlying33 (hval 0 33 v0 rfl rfl)
  have k0 := h0
  have lt0 : ∀ x ∈ p0, x.block < W.heap.size := by obtain ⟨m, hm⟩ := k0; exact DataW.trod_lt m _ _ _ hm
  obtain ⟨z0, w0⟩ : ∃ zs, IsRow .u8 W a0 len0 cap0 zs := by
    obtain ⟨fuel, hf⟩ := h0
    rcases open_ints Tryd.underlying33 Tryd.underlying5 (by kernel_rfl) hf with ⟨hcs, _⟩ | ⟨x, l, c, zs, hcs, _, hl, hm, hz, _, hcell, hwz⟩
    · simp [Value.cells] at hcs
      obtain ⟨rfl, rfl, rfl⟩ := hcs
      exact ⟨[], .inl ⟨rfl, rfl, rfl, rfl⟩⟩
    · simp [Value.cells] at hcs
      obtain ⟨rfl, rfl, rfl⟩ := hcs
      exact ⟨zs, .inr ⟨_, rfl, hl, hm, by simpa using hz, hcell, hwz⟩⟩
  obtain ⟨a1, len1, cap1, rfl⟩ := okWide_slice Tryd.underlying33 (hval 1 33 v1 rfl rfl)
  have k1 := h1
  have lt1 : ∀ x ∈ p1, x.block < W.heap.size := by obtain ⟨m, hm⟩ := k1; exact DataW.trod_lt m _ _ _ hm
  obtain ⟨z1, w1⟩ : ∃ zs, IsRow .u8 W a1 len1 cap1 zs := by
    obtain ⟨fuel, hf⟩ := h1
    rcases open_ints Tryd.underlying33 Tryd.underlying5 (by kernel_rfl) hf with ⟨hcs, _⟩ | ⟨x, l, c, zs, hcs, _, hl, hm, hz, _, hcell, hwz⟩
    · simp [Value.cells] at hcs
      obtain ⟨rfl, rfl, rfl⟩ := hcs
      exact ⟨[], .inl ⟨rfl, rfl, rfl, rfl⟩⟩
    · simp [Value.cells] at hcs
      obtain ⟨rfl, rfl, rfl⟩ := hcs
      exact ⟨zs, .inr ⟨_, rfl, hl, hm, by simpa using hz, hcell, hwz⟩⟩
  clear hA0
  refine (walk W a0 len0 cap0 z0 w0 a1 len1 cap1 z1 w1 hL).mono fun e W' ⟨he, bel⟩ => ?_
  subst he
  exact ⟨_, rfl, _, _, _, [], _, _, hW', trodAll_mk1 (shut_bool Tryd.underlying4 _), (trodAll_cons_mk (Below.trod laidOut (by kernel_rfl) (of_decide_eq_true (by kernel_rfl)) k0 bel lt0) (trodAll_cons_mk (Below.trod laidOut (by kernel_rfl) (of_decide_eq_true (by kernel_rfl)) k1 bel lt1) trodAll_mk0)), (Below.trodVars laidOut bel (by kernel_rfl) hV), bel.frame _, fun h => by cases h⟩

/-- The cells of a table. -/
def flatL : DataW Unit → List Value
  | .lit (.int k n) => [.int k n]
  | .agg l => l.map fun | .lit (.int k n) => .int k n | _ => .bool false
  | _ => []
def flatD : DataW Unit → Array Value
  | .agg l => (l.flatMap flatL).toArray
  | _ => #[]
noncomputable def laidWorld (os : Os) : World :=
  { World.holding Tryd.prog os ⟨#[], #[], []⟩ with heap := ((World.holding Tryd.prog os ⟨#[], #[], []⟩).heap.modify 0 (fun | .cells _ t frozen => .cells (flatD Rows.laid_loop_example_g01021_impl_saturations) t frozen | o => o)) }
theorem laid_met (os : Os) : laidMet Tryd.prog Rows.fnHumidityRow.laid ((laidWorld os).forCall (fun _ _ => 0) ⟨#[], #[.slice none 0 0, .slice none 0 0], []⟩).memory :=
  laidMet_of_run' 8 (by kernel_rfl) (by kernel_rfl)
theorem reads (os : Os) {H : Type} (enc : TypeId × Value → H) : ∃ places, DataW.whole enc Tryd.prog ((laidWorld os).forCall (fun _ _ => 0) ⟨#[], #[.slice none 0 0, .slice none 0 0], []⟩).memory Tryd.f8.params.toList Rows.fnHumiditySpec.vars false (#[.slice none 0 0, .slice none 0 0] : Array Value).toList 8 = some ([.nil, .nil], [Rows.laid_loop_example_g01021_impl_saturations], places) :=
  ⟨MemPlace.row ⟨0, 0, none⟩ (flatD Rows.laid_loop_example_g01021_impl_saturations).size, by kernel_rfl⟩
set_option maxRecDepth 100000 in
theorem lifted (os : Os) (started : os.Started) (H : Type) (enc : TypeId × Value → H) (F : Stop.Interp) :
    ReturnsInHanded {} Tryd.checked os 8 .any ((OpenSpec.ofChange Rows.fnHumiditySpec).preRow enc Tryd.prog Tryd.f8 Rows.fnHumidityRow.domain false Rows.fnHumidityRow.laid) (((OpenSpec.ofChange Rows.fnHumiditySpec).at F).post enc Tryd.prog Tryd.f8 false true false false) := by
  obtain ⟨places, hx⟩ := reads os enc
  refine returnsInHanded_of_row (C := Tryd.checked) (s := OpenSpec.ofChange Rows.fnHumiditySpec) own started (by kernel_rfl) Tryd.func8
    (witness_row_at (enc := enc) (C := Tryd.checked) false (laidWorld os) #[.slice none 0 0, .slice none 0 0] rfl (by kernel_rfl) (by kernel_rfl) (by kernel_rfl)
      (OpenSpec.preRow_of_cond 8 hx (by kernel_rfl) (fun k hk => by cases hk) (by kernel_rfl) (laid_met os))) ?_
  intro W base args ds gs before hval hW _ _ _ hL _ _
  exact contract H enc W base args ds gs before hval hW hL
theorem said : Rows.FnHumiditySaid :=
  OpenClaim.holds_of_cond 8 Tryd.f8 rfl rfl rfl rfl rfl rfl rfl ⟨rfl, rfl, rfl, rfl, rfl⟩ rfl rfl rfl rfl rfl (by kernel_rfl) Tryd.func8 (by kernel_rfl)
    (of_decide_eq_true (by kernel_rfl)) (by unfold Func.isWrapper; first | (rw [if_pos (by decide +kernel)]; kernel_rfl) | (rw [if_neg (by decide +kernel)]; exact ⟨rfl, rfl⟩))
    (fun os started H enc _ F => by rw [OpenClaim.pre_eq_preRow]; exact lifted os started H enc F)
theorem plain (f : FuncId) (fn : Func) (hf : Tryd.pinned.checked.prog.funcNamed "loop.example/g01021/laws.FnHumidity" = some f) (hfn : Tryd.pinned.checked.prog.funcs[f]? = some fn) :
    true = Tryd.pinned.checked.prog.looks [] ∧ ∀ (j : Nat) t, fn.params[j]? = some t → Tryd.pinned.checked.prog.wantsStandIn t = false := by
  obtain rfl : f = 8 := Option.some.inj ((show Tryd.prog.funcNamed "loop.example/g01021/laws.FnHumidity" = some 8 by kernel_rfl).symm.trans hf) |>.symm
  obtain rfl : fn = Tryd.f8 := (Option.some.inj (Tryd.func8.symm.trans hfn)).symm
  refine ⟨by kernel_rfl, fun j t ht => ?_⟩
  rw [Tryd.params8] at ht
  have hm := Array.mem_of_getElem? ht
  simp only [List.mem_toArray, List.mem_cons, List.not_mem_nil, or_false] at hm
  rcases hm with rfl | rfl
  all_goals first | exact (show Tryd.prog.wantsStandIn 33 = false by kernel_rfl)
theorem proved : Rows.FnHumidityCardSaid :=
  Claim7.holds_tied_plain_at .later [] _ _ _ _ said (fun _ h => by cases h) (by kernel_rfl) (fun _ h => by cases h) fnHumidity_row_tie rfl ⟨rfl, rfl⟩ (by kernel_rfl) rfl plain (by kernel_rfl)
#print axioms proved
end Go.Proofs.YtkldgmgjbboiaacDoor.fnHumidity
