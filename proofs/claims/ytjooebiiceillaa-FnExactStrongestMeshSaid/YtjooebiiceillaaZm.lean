/-
  Contracts of chapter 9: WalkDraught; the model's and the program's. Conditions: those that each theorem states.
-/
import Derived.Test.YtjooebiiceillaaZl
namespace Go.Proofs.Ytjooebiiceillaa
open Go.RowKit
set_option linter.unusedVariables false
set_option linter.unusedSimpArgs false

theorem draughtAlong_any (J : Int) (A : Option Addr) (cap : Nat) (xs : List Aw) (V T Z : Value) (lv tp zs : List Int) (w : World) (hr : AwR w A xs) (hv : RowW .i64 w V lv) (ht : RowW .i64 w T tp) (hok : mineOk J xs = true) (hlv : lvOk J lv = true) (hft : flOk (-300) 600 xs.length tp = true)
    (hz : Row .i64 w Z zs) (hzl : zs.length ≤ 64) (hst : ∀ y ∈ zs, y ≠ 0 ∧ -(xs.length : Int) ≤ y ∧ y ≤ xs.length) :
    Calls Try.prog 71 #[.agg #[.int .i64 J, .slice A xs.length cap, V, T], Z] w fun e w' => e = .returned (.int .i64 (alS (draT xs lv tp xs.length) zs zs.length)) ∧ Below w.heap.size w w' := by
  obtain ⟨ys, rfl⟩ := sts_of zs hst
  obtain ⟨SA, scap, rfl⟩ := hz.form
  have hl : (ys.map stZ).length = ys.length := by simp
  rw [hl] at hzl
  rw [← sumY_all]
  have hS : ∀ (j : Nat) (h : j < ys.length), ∃ b off, SA = some ⟨b, off, none⟩ ∧ w.cell? ⟨b, off + j, none⟩ = some (.int .i64 (stZ ys[j])) := fun j h => by
    obtain ⟨b, off, e, -, hc⟩ := Row.cell hz (show j < (ys.map stZ).length by rw [hl]; exact h)
    refine ⟨b, off, e, ?_⟩
    rw [hc]
    simp [List.getD, h]
  have key := draughtAlong_st J A cap xs V T lv tp SA scap ys w hr hv ht hok hlv hft hzl hS
  rw [hl]
  exact key
/-- What WalkDraught returns. -/
def wkdC (J : Int) (xs : List Aw) (lv tp zs : List Int) : Int := if askC J xs lv tp = 0 then (if wkR xs zs && decide (zs.length ≤ 64) then 0 else 6) else askC J xs lv tp
def wkdA (J : Int) (xs : List Aw) (lv tp zs : List Int) : Int := if wkdC J xs lv tp zs = 0 then alS (draT xs lv tp xs.length) zs zs.length else 0
theorem wk_st {xs : List Aw} {zs : List Int} (h : wkR xs zs = true) : ∀ y ∈ zs, y ≠ 0 ∧ -(xs.length : Int) ≤ y ∧ y ≤ xs.length := fun y hy => by
  obtain ⟨j, hj, rfl⟩ := mem_at hy
  exact stp_parts (wkR_iff.1 h j hj)
theorem ret_wd {a b a' b' : Int} (h : a = a') (k : b = b') : Ending.returned (.tuple #[.int .i64 a, .int .i64 b]) = .returned (.tuple #[.int .i64 a', .int .i64 b']) := by rw [h, k]
set_option maxHeartbeats 2000000 in
set_option maxRecDepth 100000 in
theorem sWalkDraught_any (J : Int) (A : Option Addr) (cap : Nat) (xs : List Aw) (V : Value) (lv : List Int) (T : Value) (tp : List Int) (Z : Value) (zs : List Int) (w : World) (hr : AwR w A xs) (hs : ∀ a ∈ xs, a.s.size ≤ maxLen) (hl : xs.length ≤ 1048576) (hv : Row .i64 w V lv) (hvl : lv.length ≤ 1048576) (ht : Row .i64 w T tp) (htl : tp.length ≤ 1048576) (hz : Row .i64 w Z zs) (hzl : zs.length ≤ 1048576) :
    Calls Try.prog 31 #[.agg #[.int .i64 J, .slice A xs.length cap], V, T, Z] w fun e w' => e = .returned (.tuple #[.int .i64 (wkdA J xs lv tp zs), .int .i64 (wkdC J xs lv tp zs)]) ∧ Below w.heap.size w w' := by
  obtain ⟨F, fcap, rfl⟩ := hv.form
  obtain ⟨G, gcap, rfl⟩ := ht.form
  obtain ⟨H, hcap, rfl⟩ := hz.form
  have HB0 := Lib.hid (below_box w (.cells #[.int .i64 J, .slice A xs.length cap] 36))
  have HR := Lib.hid (hr.below HB0.out)
  have HV := Lib.hid (hv.below HB0.out)
  have HT := Lib.hid (ht.below HB0.out)
  have HZ := Lib.hid (hz.below HB0.out)
  have HA := Lib.hid (show (w.alloc (.cells #[.int .i64 J, .slice A xs.length cap] 36)).cell? ⟨w.heap.size, 0, none⟩ = some (.int .i64 J) ∧ (w.alloc (.cells #[.int .i64 J, .slice A xs.length cap] 36)).cell? ⟨w.heap.size, 1, none⟩ = some (.slice A xs.length cap) from ⟨by simp, by simp⟩)
  have HS := Lib.hid hs
  clear hr hv hs ht hz
  by_cases hc : askC J xs lv tp = 0
  · have HOK := Lib.hid (askC_ok hc)
    have h24 := (mineOk_iff.1 HOK.out.1).2.2
    cases hwk : (wkR xs zs && decide (zs.length ≤ 64))
    · have HE := Lib.hid (show wkdA J xs lv tp zs = 0 ∧ wkdC J xs lv tp zs = 6 by unfold wkdA wkdC; rw [if_pos hc, hwk]; exact ⟨rfl, rfl⟩)
      go_enter Try.func31, Try.ntmps31
      go_wp2_with fail
      (with_reducible refine (l09Ask_any w.heap.size J A cap xs _ _ lv tp (w.alloc (.cells #[.int .i64 J, .slice A xs.length cap] 36)) HA.out.1 HA.out.2 HR.out HS.out hl (RowW.of_row HV.out) hvl (RowW.of_row HT.out) htl).mono ?_)
      rintro e w1 ⟨rfl, n, rfl⟩
      have HB1 := Lib.hid (show Below w.heap.size w ((w.alloc (.cells #[.int .i64 J, .slice A xs.length cap] 36)).drewN n) from below_drewN' HB0.out n)
      have HR1 := Lib.hid (show AwR ((w.alloc (.cells #[.int .i64 J, .slice A xs.length cap] 36)).drewN n) A xs from HR.out)
      have HV1 := Lib.hid (show RowW .i64 ((w.alloc (.cells #[.int .i64 J, .slice A xs.length cap] 36)).drewN n) _ lv from RowW.of_row HV.out)
      have HT1 := Lib.hid (show RowW .i64 ((w.alloc (.cells #[.int .i64 J, .slice A xs.length cap] 36)).drewN n) _ tp from RowW.of_row HT.out)
      have HZ1 := Lib.hid (show RowW .i64 ((w.alloc (.cells #[.int .i64 J, .slice A xs.length cap] 36)).drewN n) _ zs from RowW.of_row HZ.out)
      have HA1 := Lib.hid (show ((w.alloc (.cells #[.int .i64 J, .slice A xs.length cap] 36)).drewN n).cell? ⟨w.heap.size, 1, none⟩ = some (.slice A xs.length cap) from HA.out.2)
      generalize (w.alloc (.cells #[.int .i64 J, .slice A xs.length cap] 36)).drewN n = W1 at *
      rw [hc]
      go_wp2_with fail
      (with_reducible refine (l09Walk_any w.heap.size cap A xs _ zs W1 HA1.out HR1.out HZ1.out hzl h24).mono ?_)
      rintro e w2 ⟨rfl, n2, rfl⟩
      rw [hwk]
      have HB2 := Lib.hid (show Below w.heap.size w (W1.drewN n2) from below_drewN' HB1.out n2)
      have HR2 := Lib.hid (show AwR (W1.drewN n2) A xs from HR1.out)
      have HV2 := Lib.hid (show RowW .i64 (W1.drewN n2) _ lv from HV1.out)
      have HT2 := Lib.hid (show RowW .i64 (W1.drewN n2) _ tp from HT1.out)
      have HZ2 := Lib.hid (show RowW .i64 (W1.drewN n2) _ zs from HZ1.out)
      have HA2 := Lib.hid (show (W1.drewN n2).cell? ⟨w.heap.size, 1, none⟩ = some (.slice A xs.length cap) from HA1.out)
      generalize W1.drewN n2 = W2 at *
      go_wp2
      go_ret2
      exact ⟨ret_wd HE.out.1.symm HE.out.2.symm, HB2.out⟩
    · have HE := Lib.hid (show wkdA J xs lv tp zs = alS (draT xs lv tp xs.length) zs zs.length ∧ wkdC J xs lv tp zs = 0 by unfold wkdA wkdC; rw [if_pos hc, hwk]; exact ⟨rfl, rfl⟩)
      have hw2 : wkR xs zs = true ∧ zs.length ≤ 64 := by simpa using hwk
      have HST := Lib.hid (fun (j : Nat) (hj : j < zs.length) => wk_st hw2.1 _ (at_mem hj))
      have hz64 := hw2.2
      have hdl := draT_len xs lv tp xs.length
      have HDB := Lib.hid (fun j => draR_bd (xs := xs) HOK.out.2.1 HOK.out.2.2 j)
      go_enter Try.func31, Try.ntmps31
      go_wp2_with fail
      (with_reducible refine (l09Ask_any w.heap.size J A cap xs _ _ lv tp (w.alloc (.cells #[.int .i64 J, .slice A xs.length cap] 36)) HA.out.1 HA.out.2 HR.out HS.out hl (RowW.of_row HV.out) hvl (RowW.of_row HT.out) htl).mono ?_)
      rintro e w1 ⟨rfl, n, rfl⟩
      have HB1 := Lib.hid (show Below w.heap.size w ((w.alloc (.cells #[.int .i64 J, .slice A xs.length cap] 36)).drewN n) from below_drewN' HB0.out n)
      have HR1 := Lib.hid (show AwR ((w.alloc (.cells #[.int .i64 J, .slice A xs.length cap] 36)).drewN n) A xs from HR.out)
      have HV1 := Lib.hid (show RowW .i64 ((w.alloc (.cells #[.int .i64 J, .slice A xs.length cap] 36)).drewN n) _ lv from RowW.of_row HV.out)
      have HT1 := Lib.hid (show RowW .i64 ((w.alloc (.cells #[.int .i64 J, .slice A xs.length cap] 36)).drewN n) _ tp from RowW.of_row HT.out)
      have HZ1 := Lib.hid (show RowW .i64 ((w.alloc (.cells #[.int .i64 J, .slice A xs.length cap] 36)).drewN n) _ zs from RowW.of_row HZ.out)
      have HA1 := Lib.hid (show ((w.alloc (.cells #[.int .i64 J, .slice A xs.length cap] 36)).drewN n).cell? ⟨w.heap.size, 1, none⟩ = some (.slice A xs.length cap) from HA.out.2)
      generalize (w.alloc (.cells #[.int .i64 J, .slice A xs.length cap] 36)).drewN n = W1 at *
      rw [hc]
      go_wp2_with fail
      (with_reducible refine (l09Walk_any w.heap.size cap A xs _ zs W1 HA1.out HR1.out HZ1.out hzl h24).mono ?_)
      rintro e w2 ⟨rfl, n2, rfl⟩
      rw [hwk]
      have HB2 := Lib.hid (show Below w.heap.size w (W1.drewN n2) from below_drewN' HB1.out n2)
      have HR2 := Lib.hid (show AwR (W1.drewN n2) A xs from HR1.out)
      have HV2 := Lib.hid (show RowW .i64 (W1.drewN n2) _ lv from HV1.out)
      have HT2 := Lib.hid (show RowW .i64 (W1.drewN n2) _ tp from HT1.out)
      have HZ2 := Lib.hid (show RowW .i64 (W1.drewN n2) _ zs from HZ1.out)
      have HA2 := Lib.hid (show (W1.drewN n2).cell? ⟨w.heap.size, 1, none⟩ = some (.slice A xs.length cap) from HA1.out)
      generalize W1.drewN n2 = W2 at *
      go_wp2_with fail
      (with_reducible refine (l09Draughts_any w.heap.size cap J A xs _ _ lv tp W2 HA2.out HR2.out HV2.out HT2.out HOK.out.1 HOK.out.2.1 HOK.out.2.2).mono ?_)
      rintro e w3 ⟨u, rfl, ho, hd⟩
      have HO := Lib.hid ho
      have HZ3 := Lib.hid (HZ2.out.below hd)
      have HB3 := Lib.hid (HB2.out.trans (hd.mono HB2.out.size))
      clear ho hd
      go_wp2_with fail
      (with_reducible refine (l09Along_any _ _ (draT xs lv tp xs.length) zs w3 (RowW.of_ownI HO.out) HZ3.out HDB.out (by omega) hz64 (fun j hj => by rw [hdl]; exact HST.out j hj)).mono ?_)
      rintro e w' ⟨rfl, rfl⟩
      go_wp2
      go_ret2
      exact ⟨ret_wd HE.out.1.symm HE.out.2.symm, HB3.out⟩
  · have HE := Lib.hid (show wkdA J xs lv tp zs = 0 ∧ wkdC J xs lv tp zs = askC J xs lv tp by unfold wkdA wkdC; rw [if_neg hc, if_neg hc]; exact ⟨rfl, rfl⟩)
    have hz1 : (askC J xs lv tp != 0) = true := by simp [hc]
    have hz2 : (askC J xs lv tp == 0) = false := by simp [hc]
    generalize hzz : askC J xs lv tp = z at *
    go_enter Try.func31, Try.ntmps31
    go_wp2_with fail
    (with_reducible refine (l09Ask_any w.heap.size J A cap xs _ _ lv tp (w.alloc (.cells #[.int .i64 J, .slice A xs.length cap] 36)) HA.out.1 HA.out.2 HR.out HS.out hl (RowW.of_row HV.out) hvl (RowW.of_row HT.out) htl).mono ?_)
    rintro e w1 ⟨rfl, n, rfl⟩
    have HB1 := Lib.hid (show Below w.heap.size w ((w.alloc (.cells #[.int .i64 J, .slice A xs.length cap] 36)).drewN n) from below_drewN' HB0.out n)
    have HR1 := Lib.hid (show AwR ((w.alloc (.cells #[.int .i64 J, .slice A xs.length cap] 36)).drewN n) A xs from HR.out)
    have HV1 := Lib.hid (show RowW .i64 ((w.alloc (.cells #[.int .i64 J, .slice A xs.length cap] 36)).drewN n) _ lv from RowW.of_row HV.out)
    have HT1 := Lib.hid (show RowW .i64 ((w.alloc (.cells #[.int .i64 J, .slice A xs.length cap] 36)).drewN n) _ tp from RowW.of_row HT.out)
    have HZ1 := Lib.hid (show RowW .i64 ((w.alloc (.cells #[.int .i64 J, .slice A xs.length cap] 36)).drewN n) _ zs from RowW.of_row HZ.out)
    have HA1 := Lib.hid (show ((w.alloc (.cells #[.int .i64 J, .slice A xs.length cap] 36)).drewN n).cell? ⟨w.heap.size, 1, none⟩ = some (.slice A xs.length cap) from HA.out.2)
    generalize (w.alloc (.cells #[.int .i64 J, .slice A xs.length cap] 36)).drewN n = W1 at *
    rw [hzz]
    go_wp2
    go_ret2
    exact ⟨ret_wd HE.out.1.symm HE.out.2.symm, HB1.out⟩
set_option maxHeartbeats 2000000 in
set_option maxRecDepth 100000 in
theorem iWalkDraught_any (J : Int) (A : Option Addr) (cap : Nat) (xs : List Aw) (V : Value) (lv : List Int) (T : Value) (tp : List Int) (Z : Value) (zs : List Int) (w : World) (hr : AwR w A xs) (hs : ∀ a ∈ xs, a.s.size ≤ maxLen) (hl : xs.length ≤ 1048576) (hv : Row .i64 w V lv) (hvl : lv.length ≤ 1048576) (ht : Row .i64 w T tp) (htl : tp.length ≤ 1048576) (hz : Row .i64 w Z zs) (hzl : zs.length ≤ 1048576) :
    Calls Try.prog 32 #[.agg #[.int .i64 J, .slice A xs.length cap], V, T, Z] w fun e w' => e = .returned (.tuple #[.int .i64 (wkdA J xs lv tp zs), .int .i64 (wkdC J xs lv tp zs)]) ∧ Below w.heap.size w w' := by
  obtain ⟨F, fcap, rfl⟩ := hv.form
  obtain ⟨G, gcap, rfl⟩ := ht.form
  obtain ⟨H, hcap, rfl⟩ := hz.form
  have HB0 := Lib.hid (below_box w (.cells #[.int .i64 J, .slice A xs.length cap] 36))
  have HR := Lib.hid (hr.below HB0.out)
  have HV := Lib.hid (hv.below HB0.out)
  have HT := Lib.hid (ht.below HB0.out)
  have HZ := Lib.hid (hz.below HB0.out)
  have HA := Lib.hid (show (w.alloc (.cells #[.int .i64 J, .slice A xs.length cap] 36)).cell? ⟨w.heap.size, 0, none⟩ = some (.int .i64 J) ∧ (w.alloc (.cells #[.int .i64 J, .slice A xs.length cap] 36)).cell? ⟨w.heap.size, 1, none⟩ = some (.slice A xs.length cap) from ⟨by simp, by simp⟩)
  have HS := Lib.hid hs
  clear hr hv hs ht hz
  by_cases hc : askC J xs lv tp = 0
  · have HOK := Lib.hid (askC_ok hc)
    have h24 := (mineOk_iff.1 HOK.out.1).2.2
    by_cases hz64 : zs.length ≤ 64
    · have t1 : ¬ (64 : Int) < (zs.length : Int) := by omega
      have t2 : decide ((64 : Int) < (zs.length : Int)) = false := decide_eq_false t1
      cases hwk : wkR xs zs
      · have HE := Lib.hid (show wkdA J xs lv tp zs = 0 ∧ wkdC J xs lv tp zs = 6 by unfold wkdA wkdC; rw [if_pos hc, hwk]; exact ⟨rfl, rfl⟩)
        go_enter Try.func32, Try.ntmps32
        go_wp2_with fail
        (with_reducible refine (climateOf_ok J A cap xs _ _ lv tp (w.alloc (.cells #[.int .i64 J, .slice A xs.length cap] 36)) HR.out HS.out hl HV.out hvl HT.out htl hc).mono ?_)
        rintro e w1 ⟨rfl, hd1⟩
        have HB1 := Lib.hid (HB0.out.trans (hd1.mono HB0.out.size))
        have hm0 := cell_keep HA.out.1 hd1
        have hm1 := cell_keep HA.out.2 hd1
        have hw1 : w.heap.size < w1.heap.size := World.block_lt_of_cell? _ _ hm0
        have hwn : ¬ (w.heap.size = w1.heap.size) := Nat.ne_of_lt hw1
        have HR1 := Lib.hid (HR.out.below hd1)
        have HV1 := Lib.hid (HV.out.below hd1)
        have HT1 := Lib.hid (HT.out.below hd1)
        have HZ1 := Lib.hid (HZ.out.below hd1)
        clear hd1
        have hBC := below_box w1 (.cells #[.int .i64 J, .slice A xs.length cap, .slice F lv.length fcap, .slice G tp.length gcap] 74)
        have HR2 := Lib.hid (HR1.out.below hBC)
        have HV2 := Lib.hid (HV1.out.below hBC)
        have HT2 := Lib.hid (HT1.out.below hBC)
        have HZ2 := Lib.hid (HZ1.out.below hBC)
        have HB2 := Lib.hid (HB1.out.trans (hBC.mono HB1.out.size))
        have k0 : (w1.alloc (.cells #[.int .i64 J, .slice A xs.length cap, .slice F lv.length fcap, .slice G tp.length gcap] 74)).cell? ⟨w1.heap.size, 0, none⟩ = some (.int .i64 J) := by simp
        have k1 : (w1.alloc (.cells #[.int .i64 J, .slice A xs.length cap, .slice F lv.length fcap, .slice G tp.length gcap] 74)).cell? ⟨w1.heap.size, 1, none⟩ = some (.slice A xs.length cap) := by simp
        have k2 : (w1.alloc (.cells #[.int .i64 J, .slice A xs.length cap, .slice F lv.length fcap, .slice G tp.length gcap] 74)).cell? ⟨w1.heap.size, 2, none⟩ = some (.slice F lv.length fcap) := by simp
        have k3 : (w1.alloc (.cells #[.int .i64 J, .slice A xs.length cap, .slice F lv.length fcap, .slice G tp.length gcap] 74)).cell? ⟨w1.heap.size, 3, none⟩ = some (.slice G tp.length gcap) := by simp
        clear hBC
        go_wp2_with fail
        (with_reducible refine (isWalk_any J A cap xs _ zs _ HR2.out HZ2.out hz64 h24).mono ?_)
        rintro e w3 ⟨rfl, hd3⟩
        rw [hwk]
        have HB3 := Lib.hid (HB2.out.trans (hd3.mono HB2.out.size))
        have q0 := cell_keep k0 hd3
        have q1 := cell_keep k1 hd3
        have q2 := cell_keep k2 hd3
        have q3 := cell_keep k3 hd3
        have HR3 := Lib.hid (HR2.out.below hd3)
        have HV3 := Lib.hid (HV2.out.below hd3)
        have HT3 := Lib.hid (HT2.out.below hd3)
        have HZ3 := Lib.hid (HZ2.out.below hd3)
        clear hd3 k0 k1 k2 k3 hm0 hm1
        go_wp2
        go_ret2
        exact ⟨ret_wd HE.out.1.symm HE.out.2.symm, HB3.out⟩
      · have HE := Lib.hid (show wkdA J xs lv tp zs = alS (draT xs lv tp xs.length) zs zs.length ∧ wkdC J xs lv tp zs = 0 by unfold wkdA wkdC; rw [if_pos hc, hwk, decide_eq_true hz64]; exact ⟨rfl, rfl⟩)
        have HST := Lib.hid (wk_st hwk)
        go_enter Try.func32, Try.ntmps32
        go_wp2_with fail
        (with_reducible refine (climateOf_ok J A cap xs _ _ lv tp (w.alloc (.cells #[.int .i64 J, .slice A xs.length cap] 36)) HR.out HS.out hl HV.out hvl HT.out htl hc).mono ?_)
        rintro e w1 ⟨rfl, hd1⟩
        have HB1 := Lib.hid (HB0.out.trans (hd1.mono HB0.out.size))
        have hm0 := cell_keep HA.out.1 hd1
        have hm1 := cell_keep HA.out.2 hd1
        have hw1 : w.heap.size < w1.heap.size := World.block_lt_of_cell? _ _ hm0
        have hwn : ¬ (w.heap.size = w1.heap.size) := Nat.ne_of_lt hw1
        have HR1 := Lib.hid (HR.out.below hd1)
        have HV1 := Lib.hid (HV.out.below hd1)
        have HT1 := Lib.hid (HT.out.below hd1)
        have HZ1 := Lib.hid (HZ.out.below hd1)
        clear hd1
        have hBC := below_box w1 (.cells #[.int .i64 J, .slice A xs.length cap, .slice F lv.length fcap, .slice G tp.length gcap] 74)
        have HR2 := Lib.hid (HR1.out.below hBC)
        have HV2 := Lib.hid (HV1.out.below hBC)
        have HT2 := Lib.hid (HT1.out.below hBC)
        have HZ2 := Lib.hid (HZ1.out.below hBC)
        have HB2 := Lib.hid (HB1.out.trans (hBC.mono HB1.out.size))
        have k0 : (w1.alloc (.cells #[.int .i64 J, .slice A xs.length cap, .slice F lv.length fcap, .slice G tp.length gcap] 74)).cell? ⟨w1.heap.size, 0, none⟩ = some (.int .i64 J) := by simp
        have k1 : (w1.alloc (.cells #[.int .i64 J, .slice A xs.length cap, .slice F lv.length fcap, .slice G tp.length gcap] 74)).cell? ⟨w1.heap.size, 1, none⟩ = some (.slice A xs.length cap) := by simp
        have k2 : (w1.alloc (.cells #[.int .i64 J, .slice A xs.length cap, .slice F lv.length fcap, .slice G tp.length gcap] 74)).cell? ⟨w1.heap.size, 2, none⟩ = some (.slice F lv.length fcap) := by simp
        have k3 : (w1.alloc (.cells #[.int .i64 J, .slice A xs.length cap, .slice F lv.length fcap, .slice G tp.length gcap] 74)).cell? ⟨w1.heap.size, 3, none⟩ = some (.slice G tp.length gcap) := by simp
        clear hBC
        go_wp2_with fail
        (with_reducible refine (isWalk_any J A cap xs _ zs _ HR2.out HZ2.out hz64 h24).mono ?_)
        rintro e w3 ⟨rfl, hd3⟩
        rw [hwk]
        have HB3 := Lib.hid (HB2.out.trans (hd3.mono HB2.out.size))
        have q0 := cell_keep k0 hd3
        have q1 := cell_keep k1 hd3
        have q2 := cell_keep k2 hd3
        have q3 := cell_keep k3 hd3
        have HR3 := Lib.hid (HR2.out.below hd3)
        have HV3 := Lib.hid (HV2.out.below hd3)
        have HT3 := Lib.hid (HT2.out.below hd3)
        have HZ3 := Lib.hid (HZ2.out.below hd3)
        clear hd3 k0 k1 k2 k3 hm0 hm1
        go_wp2_with fail
        (with_reducible refine (draughtAlong_any J A cap xs _ _ _ lv tp zs w3 HR3.out (RowW.of_row HV3.out) (RowW.of_row HT3.out) HOK.out.1 HOK.out.2.1 HOK.out.2.2 HZ3.out hz64 HST.out).mono ?_)
        rintro e w4 ⟨rfl, hd4⟩
        have HB4 := Lib.hid (HB3.out.trans (hd4.mono HB3.out.size))
        clear hd4
        go_wp2
        go_ret2
        exact ⟨ret_wd HE.out.1.symm HE.out.2.symm, HB4.out⟩
    · have t1 : (64 : Int) < (zs.length : Int) := by omega
      have HE := Lib.hid (show wkdA J xs lv tp zs = 0 ∧ wkdC J xs lv tp zs = 6 by unfold wkdA wkdC; rw [if_pos hc, decide_eq_false hz64, Bool.and_false]; exact ⟨rfl, rfl⟩)
      go_enter Try.func32, Try.ntmps32
      go_wp2_with fail
      (with_reducible refine (climateOf_ok J A cap xs _ _ lv tp (w.alloc (.cells #[.int .i64 J, .slice A xs.length cap] 36)) HR.out HS.out hl HV.out hvl HT.out htl hc).mono ?_)
      rintro e w1 ⟨rfl, hd1⟩
      have HB1 := Lib.hid (HB0.out.trans (hd1.mono HB0.out.size))
      have hm0 := cell_keep HA.out.1 hd1
      have hm1 := cell_keep HA.out.2 hd1
      have hw1 : w.heap.size < w1.heap.size := World.block_lt_of_cell? _ _ hm0
      have hwn : ¬ (w.heap.size = w1.heap.size) := Nat.ne_of_lt hw1
      have HR1 := Lib.hid (HR.out.below hd1)
      have HV1 := Lib.hid (HV.out.below hd1)
      have HT1 := Lib.hid (HT.out.below hd1)
      have HZ1 := Lib.hid (HZ.out.below hd1)
      clear hd1
      go_wp2
      go_ret2
      exact ⟨ret_wd HE.out.1.symm HE.out.2.symm, HB1.out.alloc HB1.out.size _⟩
  · have HE := Lib.hid (show wkdA J xs lv tp zs = 0 ∧ wkdC J xs lv tp zs = askC J xs lv tp by unfold wkdA wkdC; rw [if_neg hc, if_neg hc]; exact ⟨rfl, rfl⟩)
    have hz1 : (askC J xs lv tp != 0) = true := by simp [hc]
    have hz2 : (askC J xs lv tp == 0) = false := by simp [hc]
    generalize hzz : askC J xs lv tp = z at *
    go_enter Try.func32, Try.ntmps32
    go_wp2_with fail
    (with_reducible refine (climateOf_bad J A cap xs _ _ lv tp (w.alloc (.cells #[.int .i64 J, .slice A xs.length cap] 36)) HR.out HS.out hl HV.out hvl HT.out htl (by rw [hzz]; exact hc)).mono ?_)
    rw [hzz]
    rintro e w1 ⟨rfl, hd1⟩
    have HB1 := Lib.hid (HB0.out.trans (hd1.mono HB0.out.size))
    clear hd1
    go_wp2
    go_ret2
    exact ⟨ret_wd HE.out.1.symm HE.out.2.symm, HB1.out.alloc HB1.out.size _⟩
end Go.Proofs.Ytjooebiiceillaa
