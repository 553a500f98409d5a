/-
  Contracts of chapter 11: a joint that is mended; the model's and the program's. Conditions: those that each theorem states.
-/
import Derived.Test.YtoojndohddellaaGreatDoorLb
import Derived.Test.YtoojndohddellaaGreatDoorZq
import Derived.Test.YtoojndohddellaaGreatDoorRh
namespace Go.Proofs.YtoojndohddellaaGreatDoor
open Go.RowKit
set_option linter.unusedVariables false
set_option linter.unusedSimpArgs false

/-- A flow behind the mended joint, and the first n of them; and the row that is changed in place, i rounds. -/
def mjF (xs : List Int) (k j : Nat) : Int := if j ≤ k then xs.getD j 0 else xs.getD j 0 + lsF xs k
def mjT (xs : List Int) (k n : Nat) : List Int := (List.range n).map (mjF xs k)
theorem mjT_len (xs : List Int) (k n : Nat) : (mjT xs k n).length = n := by simp [mjT]
theorem mjT_snoc (xs : List Int) (k n : Nat) : mjT xs k (n + 1) = mjT xs k n ++ [mjF xs k n] := by simp [mjT, List.range_succ]
def mjM (xs : List Int) (k i : Nat) : List Int := (List.range xs.length).map (fun j => if k < j ∧ j < k + 1 + i then xs.getD j 0 + lsF xs k else xs.getD j 0)
theorem mjM_len (xs : List Int) (k i : Nat) : (mjM xs k i).length = xs.length := by simp [mjM]
theorem mjM_zero (xs : List Int) (k : Nat) : mjM xs k 0 = xs := by
  apply List.ext_getElem (by simp [mjM])
  intro j h1 h2
  simp only [mjM, List.getElem_map, List.getElem_range]
  rw [if_neg (by omega)]
  simp [List.getD, h2]
theorem mjM_full {xs : List Int} {k i : Nat} (h : xs.length ≤ k + 1 + i) : mjM xs k i = mjT xs k xs.length := by
  apply List.ext_getElem (by simp [mjM, mjT])
  intro j h1 h2
  have hj : j < xs.length := by simpa [mjM] using h1
  simp only [mjM, mjT, mjF, List.getElem_map, List.getElem_range]
  by_cases h3 : j ≤ k
  · rw [if_neg (by omega), if_pos h3]
  · rw [if_pos ⟨by omega, by omega⟩, if_neg h3]
theorem mjM_at {xs : List Int} {k i : Nat} (h : k + 1 + i < xs.length) : (intsV (mjM xs k i))[k + 1 + i]? = some (.int .i64 (xs.getD (k + 1 + i) 0)) := by
  simp [intsV, mjM, h]
theorem mjM_put {xs : List Int} {k i : Nat} (h : k + 1 + i < xs.length) : (intsV (mjM xs k i)).set (k + 1 + i) (.int .i64 (xs.getD (k + 1 + i) 0 + lsF xs k)) = intsV (mjM xs k (i + 1)) := by
  unfold intsV
  rw [← List.map_set]
  congr 1
  apply List.ext_getElem (by simp [mjM])
  intro j h1 h2
  have hj : j < xs.length := by simpa [mjM] using h2
  simp only [List.getElem_set, mjM, List.getElem_map, List.getElem_range]
  by_cases e : k + 1 + i = j
  · subst e; rw [if_pos rfl, if_pos ⟨by omega, by omega⟩]
  · rw [if_neg e]
    by_cases q : k < j ∧ j < k + 1 + i
    · rw [if_pos q, if_pos ⟨q.1, by omega⟩]
    · rw [if_neg q, if_neg (by omega)]
/-- What MendJoint returns. -/
def mjR (xs : List Int) (a : Int) : List Int := if mfC xs = 0 ∧ inB a 0 ((xs.length : Int) - 2) = true then mjT xs a.toNat xs.length else []
def mjB (xs : List Int) (a : Int) : Int := if mfC xs = 0 then (if inB a 0 ((xs.length : Int) - 2) then 0 else 3) else mfC xs
theorem mjR_len {xs : List Int} {a : Int} (hl : xs.length ≤ 1048576) : (mjR xs a).length ≤ 1048576 := by
  unfold mjR
  split
  · rw [mjT_len]; exact hl
  · simp
theorem own_baseL {w : World} {B B' : Nat} {v : Value} {xs : List Int} (h : OwnI w B v xs) (hb : B' ≤ B) : OwnI w B' v xs := ⟨h.1, h.2.imp id fun ⟨g, cap, cur, e, hg, r⟩ => ⟨g, cap, cur, e, Nat.le_trans hb hg, r⟩⟩
theorem own_someI {w : World} {B : Nat} {v : Value} {xs : List Int} (h : OwnI w B v xs) (h0 : 0 < xs.length) : ∃ g cap, v = .slice (some ⟨g, 0, none⟩) xs.length cap ∧ B ≤ g ∧ xs.length ≤ cap := by
  rcases h.2 with ⟨-, h1⟩ | ⟨g, cap, cur, e, hg, -, hcp, -⟩
  · omega
  · exact ⟨g, cap, e, hg, hcp⟩
set_option maxHeartbeats 2000000 in
set_option maxRecDepth 100000 in
theorem iMendJoint_any (u : Value) (xs : List Int) (a : Int) (w : World) (hv : Row .i64 w u xs) (hl : xs.length ≤ 1048576) :
    Calls Tryz.prog 17 #[u, .int .i64 a] w fun e w' => ∃ v, e = .returned (.tuple #[v, .int .i64 (mjB xs a)]) ∧ OwnI w' w.heap.size v (mjR xs a) ∧ Below w.heap.size w w' := by
  obtain ⟨A, cap, rfl⟩ := hv.form
  have HV := Lib.hid hv
  clear hv
  by_cases hc : mfC xs = 0
  · have HL := Lib.hid (show loR xs = lsT xs (xs.length - 1) by simp [loR, hc])
    have HOK := Lib.hid (mfC_ok hc)
    have h64 := HOK.out.2.1
    by_cases ha : a < 0
    · have HE := Lib.hid (show mjR xs a = [] ∧ mjB xs a = 3 by
        have hin : inB a 0 ((xs.length : Int) - 2) = false := inB_false (by omega)
        simp [mjR, mjB, hc, hin])
      go_enter Tryz.func17, Tryz.ntmps17
      go_wp2_with fail
      (with_reducible refine (iLossesOf_any _ xs _ HV.out hl).mono ?_)
      rintro e w1 ⟨v, rfl, ho1, hd1⟩
      rw [hc]
      rw [HL.out] at ho1
      obtain ⟨A', cap', rfl⟩ := (row_ownL ho1).form
      have HO := Lib.hid (row_ownL ho1)
      have HB1 := Lib.hid hd1
      have HV1 := Lib.hid (HV.out.below hd1)
      rw [lsT_len] at HO ⊢
      clear ho1 hd1
      go_wp2
      go_ret2
      exact ⟨_, ret_viL HE.out.2.symm, by rw [HE.out.1]; exact World.ownsRow_nil _ _ _ _, HB1.out⟩
    · by_cases hb : (xs.length : Int) - 1 ≤ a
      · have HE := Lib.hid (show mjR xs a = [] ∧ mjB xs a = 3 by
          have hin : inB a 0 ((xs.length : Int) - 2) = false := inB_false (by omega)
          simp [mjR, mjB, hc, hin])
        have hbn : ((xs.length - 1 : Nat) : Int) ≤ a := by omega
        have hbd : decide (((xs.length - 1 : Nat) : Int) ≤ a) = true := decide_eq_true hbn
        have had : decide (a < 0) = false := decide_eq_false ha
        go_enter Tryz.func17, Tryz.ntmps17
        go_wp2_with fail
        (with_reducible refine (iLossesOf_any _ xs _ HV.out hl).mono ?_)
        rintro e w1 ⟨v, rfl, ho1, hd1⟩
        rw [hc]
        rw [HL.out] at ho1
        obtain ⟨A', cap', rfl⟩ := (row_ownL ho1).form
        have HO := Lib.hid (row_ownL ho1)
        have HB1 := Lib.hid hd1
        have HV1 := Lib.hid (HV.out.below hd1)
        rw [lsT_len] at HO ⊢
        clear ho1 hd1
        go_wp2
        go_ret2
        exact ⟨_, ret_viL HE.out.2.symm, by rw [HE.out.1]; exact World.ownsRow_nil _ _ _ _, HB1.out⟩
      · obtain ⟨k, rfl⟩ := Int.eq_ofNat_of_zero_le (show 0 ≤ a by omega)
        have hin : inB (k : Int) 0 ((xs.length : Int) - 2) = true := inB_true (by omega) (by omega)
        have HE := Lib.hid (show mjR xs (k : Int) = mjT xs k xs.length ∧ mjB xs (k : Int) = 0 by simp [mjR, mjB, hc, hin])
        have hk1 : k + 1 < xs.length := by omega
        have hbn : ¬ ((xs.length - 1 : Nat) : Int) ≤ (k : Int) := by omega
        have hbd : decide (((xs.length - 1 : Nat) : Int) ≤ (k : Int)) = false := decide_eq_false hbn
        have had : decide ((k : Int) < 0) = false := decide_eq_false ha
        have hls := lsF_bd HOK.out.1 k
        go_enter Tryz.func17, Tryz.ntmps17
        go_wp2_with fail
        (with_reducible refine (iLossesOf_any _ xs _ HV.out hl).mono ?_)
        rintro e w1 ⟨v, rfl, ho1, hd1⟩
        rw [hc]
        rw [HL.out] at ho1
        obtain ⟨A', cap', rfl⟩ := (row_ownL ho1).form
        have HO := Lib.hid (row_ownL ho1)
        have HB1 := Lib.hid hd1
        have HV1 := Lib.hid (HV.out.below hd1)
        rw [lsT_len] at HO ⊢
        clear ho1 hd1
        obtain ⟨lb, lof, rfl, -, hlc⟩ := Row.cell HO.out (show k < (lsT xs (xs.length - 1)).length by rw [lsT_len]; omega)
        rw [lsT_at (show k < xs.length - 1 by omega)] at hlc
        have hlb : lb < w1.heap.size := World.block_lt_of_cell? _ _ hlc
        generalize hlz : lsF xs k = lz at *
        go_wp2_with fail
        (with_reducible refine (clone_anyQ _ xs _ HV1.out hl).mono ?_)
        rintro e w2 ⟨uv, rfl, ho2, hd2⟩
        obtain ⟨g, cg, rfl, hg, hcp⟩ := own_someI ho2 (by omega)
        have hcg : ¬ cg = k + 1 := by omega
        have HO2 := Lib.hid ho2
        have HBa := Lib.hid hd2
        clear ho2 hd2
        have hkl2 : (k : Int) < ((xs.length - 1 : Nat) : Int) := by omega
        go_wp2
        go_loopw [35] (fun c wr => ∃ i : Nat, i ≤ xs.length - (k + 1) ∧ c = .int .i64 (i : Int) ∧ Hid (wr.ownsRow w1.heap.size 2 1 (.slice (some ⟨g, 0, none⟩) xs.length cg) xs.length (intsV (mjM xs k i))) ∧ Below w1.heap.size w1 wr) (fun c wr => xs.length - (k + 1) - (intOf c).toNat)
        case atStart => exact ⟨0, by omega, rfl, Lib.hid (by rw [mjM_zero]; exact HO2.out), HBa.out⟩
        case round =>
          obtain ⟨i, hi, rfl, HO4, hbel⟩ := hrel
          by_cases hlt : i < xs.length - (k + 1)
          · have hj : k + 1 + i < xs.length := by omega
            have hcd : wr.drew.cell? ⟨g, k + 1 + i, none⟩ = some (.int .i64 (xs.getD (k + 1 + i) 0)) := (HO4.out.cellAt (k + 1 + i) (by omega)).trans (mjM_at hj)
            have hfd : wr.drew.frozen? ⟨g, k + 1 + i, none⟩ = false := HO4.out.frozenAt (k + 1 + i)
            have HPUT := Lib.hid (mjM_put hj)
            rw [hlz] at HPUT
            have b2 := fl_bd HOK.out.1 (k + 1 + i)
            have hlI : (i : Int) < ((xs.length - (k + 1) : Nat) : Int) := by omega
            have hga : (⟨g, k + 1 + i, none⟩ : Addr) ≠ ⟨lb, lof + k, none⟩ := fun e => by injection e with e; omega
            have hgb : w1.heap.size ≤ (⟨g, k + 1 + i, none⟩ : Addr).block := hg
            generalize xs.getD (k + 1 + i) 0 = t at *
            have hwm : IntKind.i64.wrap (t + lz) = t + lz := IntWalk.i64_in _ (by omega)
            have hwi : IntKind.i64.wrap (i : Int) = (i : Int) := IntWalk.i64_in _ (by omega)
            have hwk : IntKind.i64.wrap (k : Int) = (k : Int) := IntWalk.i64_in _ (by omega)
            have h0i : (0 : Int) ≤ (i : Int) := by omega
            have h0k : (0 : Int) ≤ (k : Int) := by omega
            go_wp2_with fail
            refine wp_region_held (S := fun w' => w'.cell? ⟨lb, lof + k, none⟩ = some (.int .i64 lz) ∧ Below w1.heap.size w1 w') (by kernel_rfl) ?_
            try (change wpAnyH _ _ _ _ _ _ _ _ (World.drew _))
            have hS0 := (show wr.drew.cell? ⟨lb, lof + k, none⟩ = some (.int .i64 lz) ∧ Below w1.heap.size w1 wr.drew from ⟨cellK hlc (hbel.drew), hbel.drew⟩)
            refine gTake 0 (v := ?_) rfl (by kernel_rfl) (by kernel_rfl) (by kernel_rfl) (fun _ _ _ h => h) (by kernel_rfl) ?_ hS0 ?_
            rotate_left
            · (intro W hW; clear hW; go_simp; try with_reducible rfl)
            refine gTake 1 (v := ?_) rfl (by kernel_rfl) (by kernel_rfl) (by kernel_rfl) (fun _ _ _ h => h) (by kernel_rfl) ?_ hS0 ?_
            rotate_left
            · (intro W hW; clear hW; go_simp; try with_reducible rfl)
            refine gTake 2 (v := ?_) rfl (by kernel_rfl) (by kernel_rfl) (by kernel_rfl) (fun _ _ _ h => h) (by kernel_rfl) ?_ hS0 ?_
            rotate_left
            · (intro W hW; clear hW; go_simp; try with_reducible rfl)
            refine gTake 4 (v := ?_) rfl (by kernel_rfl) (by kernel_rfl) (by kernel_rfl) (fun _ _ _ h => h) (by kernel_rfl) ?_ hS0 ?_
            rotate_left
            · (intro W hW; clear hW; go_simp; try with_reducible rfl)
            refine gTake 5 (v := ?_) rfl (by kernel_rfl) (by kernel_rfl) (by kernel_rfl) (fun _ _ _ h => h) (by kernel_rfl) ?_ hS0 ?_
            rotate_left
            · (intro W hW; clear hW; go_simp; try with_reducible rfl)
            refine gTake 6 (v := ?_) rfl (by kernel_rfl) (by kernel_rfl) (by kernel_rfl) (fun _ _ _ h => h) (by kernel_rfl) ?_ hS0 ?_
            rotate_left
            · (intro W hW; clear hW; go_simp; try with_reducible rfl)
            refine gTake 7 (v := ?_) rfl (by kernel_rfl) (by kernel_rfl) (by kernel_rfl) (fun _ _ _ h => h) (by kernel_rfl) ?_ hS0 ?_
            rotate_left
            · (intro W hW; have q0 := hW.1; clear hW; go_simp; try with_reducible rfl)
            refine gOne 3 rfl (by kernel_rfl) (by kernel_rfl) (fun K hK => ?_)
            go_simp
            skip
            have hS1 := hS0
            refine hK _ _ hS1 ?_
            clear hK K
            refine gTake 8 (v := ?_) rfl (by kernel_rfl) (by kernel_rfl) (by kernel_rfl) (fun _ _ _ h => h) (by kernel_rfl) ?_ hS1 ?_
            rotate_left
            · (intro W hW; clear hW; go_simp; try with_reducible rfl)
            refine gTake 9 (v := ?_) rfl (by kernel_rfl) (by kernel_rfl) (by kernel_rfl) (fun _ _ _ h => h) (by kernel_rfl) ?_ hS1 ?_
            rotate_left
            · (intro W hW; clear hW; go_simp; try with_reducible rfl)
            refine gOne 10 rfl (by kernel_rfl) (by kernel_rfl) (fun K hK => ?_)
            go_simp
            skip
            have hS2 := (show (wr.drew.setCell ⟨g, k + 1 + i, none⟩ (.int .i64 (t + lz))).cell? ⟨lb, lof + k, none⟩ = some (.int .i64 lz) ∧ Below w1.heap.size w1 (wr.drew.setCell ⟨g, k + 1 + i, none⟩ (.int .i64 (t + lz))) from ⟨(World.cell?_setCell_other _ _ _ _ hga).trans hS1.1, hS1.2.setCell (p := ⟨g, k + 1 + i, none⟩) hgb _⟩)
            refine hK _ _ hS2 ?_
            clear hK K
            refine wpAnyH_done (by kernel_rfl) ?_ _
            go_simp
            go_wp2
            go_roundw
            case rel =>
              refine ⟨i + 1, by omega, by go_num, Lib.hid ?_, hS2.2⟩
              have h := (HO4.out.stored (k + 1 + i) (.int .i64 (t + lz))).1
              rwa [HPUT.out] at h
            case measure => simp [intOf]; omega
          · obtain rfl : i = xs.length - (k + 1) := by omega
            have HBL := Lib.hid hbel
            clear hbel
            go_wp2
            go_ret2
            exact ⟨_, ret_viL HE.out.2.symm, by
              have h := HO4.out
              rw [mjM_full (by omega)] at h
              rw [HE.out.1]
              exact own_baseL (show OwnI _ w1.heap.size _ (mjT xs k xs.length) from by unfold OwnI; rw [mjT_len]; exact h) HB1.out.size, HB1.out.trans (HBL.out.mono HB1.out.size)⟩
  · have HE := Lib.hid (show mjR xs a = [] ∧ mjB xs a = mfC xs by simp [mjR, mjB, hc])
    have hz1 : (mfC xs != 0) = true := by simp [hc]
    have hz2 : (mfC xs == 0) = false := by simp [hc]
    go_enter Tryz.func17, Tryz.ntmps17
    go_wp2_with fail
    (with_reducible refine (iLossesOf_any _ xs _ HV.out hl).mono ?_)
    rintro e w1 ⟨v, rfl, ho1, hd1⟩
    generalize hzz : mfC xs = z at *
    have HB1 := Lib.hid hd1
    clear ho1 hd1
    go_wp2
    go_ret2
    exact ⟨_, ret_viL HE.out.2.symm, by rw [HE.out.1]; exact World.ownsRow_nil _ _ _ _, HB1.out⟩
end Go.Proofs.YtoojndohddellaaGreatDoor
