/-
  Contracts of chapter 6: the best fan; the model's and the program's. Conditions: those that each theorem states.
-/
import Derived.Test.YtcnpddmghjjhjaaVl
import Derived.Test.YtcnpddmghjjhjaaVi
namespace Go.Proofs.Ytcnpddmghjjhjaa
open Go.RowKit
set_option linter.unusedVariables false
set_option linter.unusedSimpArgs false

/-- Where the k-th fan works, and its power there. -/
def bQ (fs : List Fa) (r : Int) (k : Nat) : Int := wpQ (fs.getD k Fa.none).xs r
def bW (fs : List Fa) (r : Int) (k : Nat) : Int := divR (prR (fs.getD k Fa.none).xs (bQ fs r k) * absR (bQ fs r k)) 100
/-- The best of the first k fans (-1 if there is none) and its power. -/
def bst (fs : List Fa) (r n : Int) : Nat → Int × Int
  | 0 => (-1, 0)
  | k + 1 => if n ≤ bQ fs r k ∧ ((bst fs r n k).1 < 0 ∨ bW fs r k < (bst fs r n k).2) then ((k : Int), bW fs r k) else bst fs r n k
theorem bst_bd (fs : List Fa) (r n : Int) : ∀ k, -1 ≤ (bst fs r n k).1 ∧ (bst fs r n k).1 < (k : Int)
  | 0 => ⟨Int.le_refl _, by show (-1 : Int) < _; omega⟩
  | k + 1 => by
    have := bst_bd fs r n k
    unfold bst
    split
    · constructor
      · show -1 ≤ (k : Int); omega
      · show (k : Int) < _; omega
    · omega
theorem bst_yes {fs : List Fa} {r n : Int} {k : Nat} (h1 : n ≤ bQ fs r k) (h2 : (bst fs r n k).1 < 0 ∨ bW fs r k < (bst fs r n k).2) : bst fs r n (k + 1) = ((k : Int), bW fs r k) := if_pos ⟨h1, h2⟩
theorem bst_no {fs : List Fa} {r n : Int} {k : Nat} (h : ¬ (n ≤ bQ fs r k ∧ ((bst fs r n k).1 < 0 ∨ bW fs r k < (bst fs r n k).2))) : bst fs r n (k + 1) = bst fs r n k := if_neg h
def bfA (fs : List Fa) (r n : Int) : Int := if fansOk fs && (inB r 1 1000000 && inB n 0 100000) then (if (bst fs r n fs.length).1 < 0 then 0 else (bst fs r n fs.length).1) else 0
def bfC (fs : List Fa) (r n : Int) : Int := if fansOk fs then (if inB r 1 1000000 && inB n 0 100000 then (if (bst fs r n fs.length).1 < 0 then 3 else 0) else 2) else 1
theorem bW_bd {fs : List Fa} (h : fansOk fs = true) {r : Int} (hr : 1 ≤ r) {k : Nat} (hk : k < fs.length) : (0 ≤ bQ fs r k ∧ bQ fs r k ≤ 100000) ∧ (0 ≤ bW fs r k ∧ bW fs r k ≤ 1000000000) := by
  have hc := fanOk_curve (fansOk_each h hk)
  have e : fs.getD k Fa.none = fs[k] := by simp [List.getD, hk]
  have hq := wpQ_bd hc hr
  have hp := prR_bd hc (wpQ fs[k].xs r)
  obtain ⟨-, p3, p4⟩ := pw_bd (x := wpQ fs[k].xs r) (y := prR fs[k].xs (wpQ fs[k].xs r)) (by omega) hp
  unfold bW bQ
  rw [e]
  refine ⟨hq, ?_⟩
  rw [divR_pp _ _ p3 (by omega)]
  constructor
  · exact Int.ediv_nonneg (by omega) (by omega)
  · omega
set_option maxHeartbeats 4000000 in
theorem sBestFan_any (t1 : Prop) (A : Option Addr) (cap : Nat) (fs : List Fa) (r n : Int) (w : World) (hr : FansR True w A fs) (hl : fs.length ≤ 1048576) (hs : ∀ f ∈ fs, f.sm) :
    Calls Try.prog 39 #[.slice A fs.length cap, .int .i64 r, .int .i64 n] w fun e w' => e = .returned (.tuple #[.int .i64 (bfA fs r n), .int .i64 (bfC fs r n)]) ∧ Below w.heap.size w w' := by
  have HR := Lib.hid hr
  have HS := Lib.hid hs
  clear hr hs
  cases hok : fansOk fs
  · have HE := Lib.hid (show bfA fs r n = 0 ∧ bfC fs r n = 1 by simp [bfA, bfC, hok])
    go_enter Try.func39, Try.ntmps39
    go_wp2_with (first
      | (go_at_call 49; (with_reducible refine (l06List_any True A cap fs _ HR.out hl HS.out).mono ?_); rintro e w0 ⟨rfl, hd0⟩)
      | (go_at_call 60; (with_reducible refine (l03Res_any _ _).mono ?_); rintro e w' ⟨rfl, rfl⟩)
      | (go_at_call 67; (with_reducible refine (l00In_any _ _ _ _).mono ?_); rintro e w' ⟨rfl, rfl⟩))
    go_ret2
    exact ⟨ret_two HE.out.1.symm HE.out.2.symm, hd0⟩
  · by_cases hrr : 1 ≤ r ∧ r ≤ 1000000
    · have j0 := inB_true hrr.1 hrr.2
      by_cases hnn : 0 ≤ n ∧ n ≤ 100000
      · have j1 := inB_true hnn.1 hnn.2
        have HE := Lib.hid (show bfA fs r n = (if (bst fs r n fs.length).1 < 0 then 0 else (bst fs r n fs.length).1) ∧ bfC fs r n = (if (bst fs r n fs.length).1 < 0 then 3 else 0) by simp [bfA, bfC, hok, j0, j1])
        have HK := Lib.hid hok
        have h8 := (fansOk_iff.1 hok).2
        go_enter Try.func39, Try.ntmps39
        go_wp2_with (first
      | (go_at_call 49; (with_reducible refine (l06List_any True A cap fs _ HR.out hl HS.out).mono ?_); rintro e w0 ⟨rfl, hd0⟩)
      | (go_at_call 60; (with_reducible refine (l03Res_any _ _).mono ?_); rintro e w' ⟨rfl, rfl⟩)
      | (go_at_call 67; (with_reducible refine (l00In_any _ _ _ _).mono ?_); rintro e w' ⟨rfl, rfl⟩))
        go_loopw [8, 9, 10] (fun x8 x9 i wr => ∃ k : Nat, k ≤ fs.length ∧ x8 = .int .i64 (bst fs r n k).1 ∧ x9 = .int .i64 (bst fs r n k).2 ∧ i = .int .i64 k ∧ Below w.heap.size w wr) (fun x8 x9 i wr => fs.length - (intOf i).toNat)
        case atStart => exact ⟨0, by omega, rfl, rfl, rfl, hd0⟩
        case round =>
          obtain ⟨k, hk, rfl, rfl, rfl, hbel⟩ := hrel
          obtain ⟨wo, rfl⟩ : ∃ wo : World, wo = wr := ⟨_, rfl⟩
          have hbb := bst_bd fs r n k
          by_cases hlt : k < fs.length
          · obtain ⟨b, off, R, cp, rfl, ⟨c0, c1, c2⟩, hrr2, htt⟩ := (HR.out.below hbel) k hlt
            have hcp := htt trivial
            have HF0 := Lib.hid (HS.out fs[k] (List.getElem_mem hlt))
            have HC := Lib.hid (fanOk_curve (fansOk_each HK.out hlt))
            have hwb := bW_bd HK.out hrr.1 hlt
            have hg : fs.getD k Fa.none = fs[k] := by simp [List.getD, hlt]
            have HQ := Lib.hid (show bQ fs r k = wpQ fs[k].xs r by unfold bQ; rw [hg])
            have HW := Lib.hid (show bW fs r k = divR (prR fs[k].xs (bQ fs r k) * absR (bQ fs r k)) 100 by unfold bW; rw [hg])
            have HRR := Lib.hid hrr2
            have HY := Lib.hid (fun h1 h2 => bst_yes (fs := fs) (r := r) (n := n) (k := k) h1 h2)
            have HN := Lib.hid (fun h => bst_no (fs := fs) (r := r) (n := n) (k := k) h)
            clear hrr2 htt hg
            generalize fs[k] = f at *
            obtain ⟨s, a, xs⟩ := f
            dsimp only at c0 c1 c2 hcp
            subst hcp
            have HRS := Lib.hid (show RowsR wo R xs from HRR.out)
            have HSM := Lib.hid (show s.size ≤ 1048576 ∧ xs.length ≤ 1048576 ∧ ∀ r ∈ xs, r.length ≤ 1048576 from HF0.out)
            have HCC := Lib.hid (show curveOk xs = true from HC.out)
            have HQ2 := Lib.hid (show bQ fs r k = wpQ xs r from HQ.out)
            have HW2 := Lib.hid (show bW fs r k = divR (prR xs (bQ fs r k) * absR (bQ fs r k)) 100 from HW.out)
            clear HRR HF0 HC HQ HW
            obtain ⟨q, hq⟩ : ∃ q, bQ fs r k = q := ⟨_, rfl⟩
            obtain ⟨p, hp⟩ : ∃ p, bW fs r k = p := ⟨_, rfl⟩
            rw [hq, hp] at hwb
            have HQ3 := Lib.hid (show wpQ xs r = q by rw [← HQ2.out, hq])
            have HW3 := Lib.hid (show divR (prR xs q * absR q) 100 = p by rw [← hp, HW2.out, hq])
            have HQP := Lib.hid (And.intro hq hp)
            clear hq hp HQ2 HW2
            obtain ⟨⟨x, y⟩, hxy⟩ : ∃ xy, bst fs r n k = xy := ⟨_, rfl⟩
            rw [hxy] at hbb ⊢
            dsimp only at hbb ⊢
            have HXY := Lib.hid hxy
            clear hxy
            by_cases g1 : n ≤ q
            · by_cases g2 : x < 0
              · skip
                have HF := Lib.hid (show bst fs r n (k + 1) = ((k : Int), p) by have h := HY.out (by rw [HQP.out.1]; exact g1) (by rw [HXY.out, HQP.out.2]; exact Or.inl g2); rw [h, HQP.out.2])
                go_wp2_with (first
                      | (go_at_call 61; (with_reducible refine (l06Point_below b (off + k * 3) s a R xs.length xs r wo hrr HCC.out (fanAt_mk c0 c1 c2) HRS.out HSM.out.2.1).mono ?_); rw [show (lastN (pDrp xs r) : Int) = q from HQ3.out]; rintro e w1 ⟨rfl, hd1⟩)
                      | (go_at_call 64; (with_reducible refine (l06Power_below b (off + k * 3) s a R xs.length xs q w1 ⟨by omega, by omega⟩ HCC.out (fanAt_mk (cellK c0 hd1) (cellK c1 hd1) (cellK c2 hd1)) (HRS.out.below hd1) HSM.out.2.1).mono ?_); rw [HW3.out]; rintro e w2 ⟨rfl, hd2⟩))
                go_roundw
                case rel => exact ⟨k + 1, by omega, by rw [HF.out], by rw [HF.out], by go_num, hbel.trans ((hd1.trans (hd2.mono hd1.size)).mono hbel.size)⟩
                case measure => simp [intOf]; omega
              · skip
                by_cases g3 : p < y
                · skip
                  have HF := Lib.hid (show bst fs r n (k + 1) = ((k : Int), p) by have h := HY.out (by rw [HQP.out.1]; exact g1) (by rw [HXY.out, HQP.out.2]; exact Or.inr g3); rw [h, HQP.out.2])
                  go_wp2_with (first
                        | (go_at_call 61; (with_reducible refine (l06Point_below b (off + k * 3) s a R xs.length xs r wo hrr HCC.out (fanAt_mk c0 c1 c2) HRS.out HSM.out.2.1).mono ?_); rw [show (lastN (pDrp xs r) : Int) = q from HQ3.out]; rintro e w1 ⟨rfl, hd1⟩)
                        | (go_at_call 64; (with_reducible refine (l06Power_below b (off + k * 3) s a R xs.length xs q w1 ⟨by omega, by omega⟩ HCC.out (fanAt_mk (cellK c0 hd1) (cellK c1 hd1) (cellK c2 hd1)) (HRS.out.below hd1) HSM.out.2.1).mono ?_); rw [HW3.out]; rintro e w2 ⟨rfl, hd2⟩))
                  go_roundw
                  case rel => exact ⟨k + 1, by omega, by rw [HF.out], by rw [HF.out], by go_num, hbel.trans ((hd1.trans (hd2.mono hd1.size)).mono hbel.size)⟩
                  case measure => simp [intOf]; omega
                · skip
                  have HF := Lib.hid (show bst fs r n (k + 1) = (x, y) by rw [HN.out (by rw [HXY.out, HQP.out.1, HQP.out.2]; exact fun h => h.2.elim g2 g3), HXY.out])
                  go_wp2_with (first
                        | (go_at_call 61; (with_reducible refine (l06Point_below b (off + k * 3) s a R xs.length xs r wo hrr HCC.out (fanAt_mk c0 c1 c2) HRS.out HSM.out.2.1).mono ?_); rw [show (lastN (pDrp xs r) : Int) = q from HQ3.out]; rintro e w1 ⟨rfl, hd1⟩)
                        | (go_at_call 64; (with_reducible refine (l06Power_below b (off + k * 3) s a R xs.length xs q w1 ⟨by omega, by omega⟩ HCC.out (fanAt_mk (cellK c0 hd1) (cellK c1 hd1) (cellK c2 hd1)) (HRS.out.below hd1) HSM.out.2.1).mono ?_); rw [HW3.out]; rintro e w2 ⟨rfl, hd2⟩))
                  go_roundw
                  case rel => exact ⟨k + 1, by omega, by rw [HF.out], by rw [HF.out], by go_num, hbel.trans ((hd1.trans (hd2.mono hd1.size)).mono hbel.size)⟩
                  case measure => simp [intOf]; omega
            · skip
              have HF := Lib.hid (show bst fs r n (k + 1) = (x, y) by rw [HN.out (by rw [HXY.out, HQP.out.1, HQP.out.2]; exact fun h => g1 h.1), HXY.out])
              go_wp2_with (first
                    | (go_at_call 61; (with_reducible refine (l06Point_below b (off + k * 3) s a R xs.length xs r wo hrr HCC.out (fanAt_mk c0 c1 c2) HRS.out HSM.out.2.1).mono ?_); rw [show (lastN (pDrp xs r) : Int) = q from HQ3.out]; rintro e w1 ⟨rfl, hd1⟩)
                    | (go_at_call 64; (with_reducible refine (l06Power_below b (off + k * 3) s a R xs.length xs q w1 ⟨by omega, by omega⟩ HCC.out (fanAt_mk (cellK c0 hd1) (cellK c1 hd1) (cellK c2 hd1)) (HRS.out.below hd1) HSM.out.2.1).mono ?_); rw [HW3.out]; rintro e w2 ⟨rfl, hd2⟩))
              go_roundw
              case rel => exact ⟨k + 1, by omega, by rw [HF.out], by rw [HF.out], by go_num, hbel.trans ((hd1.trans (hd2.mono hd1.size)).mono hbel.size)⟩
              case measure => simp [intOf]; omega
          · obtain rfl : k = fs.length := by omega
            obtain ⟨⟨x, y⟩, hxy⟩ : ∃ xy, bst fs r n fs.length = xy := ⟨_, rfl⟩
            have HE2 := Lib.hid (show bfA fs r n = (if x < 0 then 0 else x) ∧ bfC fs r n = (if x < 0 then 3 else 0) by rw [HE.out.1, HE.out.2, hxy]; exact ⟨rfl, rfl⟩)
            rw [hxy] at hbb ⊢
            dsimp only at hbb ⊢
            clear hxy
            by_cases g2 : x < 0
            · skip
              have HE3 := Lib.hid (show bfA fs r n = 0 ∧ bfC fs r n = 3 by rw [HE2.out.1, HE2.out.2, if_pos g2, if_pos g2]; exact ⟨rfl, rfl⟩)
              go_wp2
              go_ret2
              exact ⟨ret_two HE3.out.1.symm HE3.out.2.symm, hbel⟩
            · skip
              have HE3 := Lib.hid (show bfA fs r n = x ∧ bfC fs r n = 0 by rw [HE2.out.1, HE2.out.2, if_neg g2, if_neg g2]; exact ⟨rfl, rfl⟩)
              go_wp2
              go_ret2
              exact ⟨ret_two HE3.out.1.symm HE3.out.2.symm, hbel⟩
      · have j1 := inB_false hnn
        have HE := Lib.hid (show bfA fs r n = 0 ∧ bfC fs r n = 2 by simp [bfA, bfC, hok, j0, j1])
        go_enter Try.func39, Try.ntmps39
        go_wp2_with (first
      | (go_at_call 49; (with_reducible refine (l06List_any True A cap fs _ HR.out hl HS.out).mono ?_); rintro e w0 ⟨rfl, hd0⟩)
      | (go_at_call 60; (with_reducible refine (l03Res_any _ _).mono ?_); rintro e w' ⟨rfl, rfl⟩)
      | (go_at_call 67; (with_reducible refine (l00In_any _ _ _ _).mono ?_); rintro e w' ⟨rfl, rfl⟩))
        go_ret2
        exact ⟨ret_two HE.out.1.symm HE.out.2.symm, hd0⟩
    · have j0 := inB_false hrr
      have HE := Lib.hid (show bfA fs r n = 0 ∧ bfC fs r n = 2 by simp [bfA, bfC, hok, j0])
      go_enter Try.func39, Try.ntmps39
      go_wp2_with (first
      | (go_at_call 49; (with_reducible refine (l06List_any True A cap fs _ HR.out hl HS.out).mono ?_); rintro e w0 ⟨rfl, hd0⟩)
      | (go_at_call 60; (with_reducible refine (l03Res_any _ _).mono ?_); rintro e w' ⟨rfl, rfl⟩)
      | (go_at_call 67; (with_reducible refine (l00In_any _ _ _ _).mono ?_); rintro e w' ⟨rfl, rfl⟩))
      go_ret2
      exact ⟨ret_two HE.out.1.symm HE.out.2.symm, hd0⟩
set_option maxHeartbeats 4000000 in
theorem iBestFan_any (t1 : Prop) (A : Option Addr) (cap : Nat) (fs : List Fa) (r n : Int) (w : World) (hr : FansR True w A fs) (hl : fs.length ≤ 1048576) (hs : ∀ f ∈ fs, f.sm) :
    Calls Try.prog 40 #[.slice A fs.length cap, .int .i64 r, .int .i64 n] w fun e w' => e = .returned (.tuple #[.int .i64 (bfA fs r n), .int .i64 (bfC fs r n)]) ∧ Below w.heap.size w w' := by
  have HR := Lib.hid hr
  have HS := Lib.hid hs
  clear hr hs
  cases hok : fansOk fs
  · have HE := Lib.hid (show bfA fs r n = 0 ∧ bfC fs r n = 1 by simp [bfA, bfC, hok])
    go_enter Try.func40, Try.ntmps40
    go_wp2_with (first
      | (go_at_call 21; (with_reducible refine (iValidFans_any True A cap fs _ HR.out hl HS.out).mono ?_); rintro e w0 ⟨rfl, hd0⟩)
      | (go_at_call 62; (with_reducible refine (isResistance_any r _).mono ?_); rintro e wr0 ⟨rfl, hdr0⟩)
      | (go_at_call 45; (with_reducible refine (within64_one _ _ _ _ _ _ (by simp)).mono ?_); rintro e w' ⟨rfl, rfl⟩))
    go_ret2
    exact ⟨ret_two HE.out.1.symm HE.out.2.symm, hd0⟩
  · by_cases hrr : 1 ≤ r ∧ r ≤ 1000000
    · have j0 := inB_true hrr.1 hrr.2
      by_cases hnn : 0 ≤ n ∧ n ≤ 100000
      · have j1 := inB_true hnn.1 hnn.2
        have HE := Lib.hid (show bfA fs r n = (if (bst fs r n fs.length).1 < 0 then 0 else (bst fs r n fs.length).1) ∧ bfC fs r n = (if (bst fs r n fs.length).1 < 0 then 3 else 0) by simp [bfA, bfC, hok, j0, j1])
        have HK := Lib.hid hok
        have h8 := (fansOk_iff.1 hok).2
        go_enter Try.func40, Try.ntmps40
        go_wp2_with (first
      | (go_at_call 21; (with_reducible refine (iValidFans_any True A cap fs _ HR.out hl HS.out).mono ?_); rintro e w0 ⟨rfl, hd0⟩)
      | (go_at_call 62; (with_reducible refine (isResistance_any r _).mono ?_); rintro e wr0 ⟨rfl, hdr0⟩)
      | (go_at_call 45; (with_reducible refine (within64_one _ _ _ _ _ _ (by simp)).mono ?_); rintro e w' ⟨rfl, rfl⟩))
        go_loopw [8, 9, 10, 28] (fun x8 x9 x10 i wr => ∃ k : Nat, k ≤ fs.length ∧ x8 = .int .i64 (if (bst fs r n k).1 < 0 then 0 else (bst fs r n k).1) ∧ x9 = .int .i64 (bst fs r n k).2 ∧ x10 = .int .i64 (if (bst fs r n k).1 < 0 then 3 else 0) ∧ i = .int .i64 k ∧ Below w.heap.size w wr) (fun x8 x9 x10 i wr => fs.length - (intOf i).toNat)
        case atStart => exact ⟨0, by omega, rfl, rfl, rfl, rfl, ((hd0.trans (hdr0.mono hd0.size)).alloc (by have := hd0.size; have := hdr0.size; omega) _)⟩
        case round =>
          obtain ⟨k, hk, rfl, rfl, rfl, rfl, hbel⟩ := hrel
          obtain ⟨wo, rfl⟩ : ∃ wo : World, wo = wr := ⟨_, rfl⟩
          have hbb := bst_bd fs r n k
          by_cases hlt : k < fs.length
          · obtain ⟨b, off, R, cp, rfl, ⟨c0, c1, c2⟩, hrr2, htt⟩ := (HR.out.below hbel) k hlt
            have hcp := htt trivial
            have HF0 := Lib.hid (HS.out fs[k] (List.getElem_mem hlt))
            have HC := Lib.hid (fanOk_curve (fansOk_each HK.out hlt))
            have hwb := bW_bd HK.out hrr.1 hlt
            have hg : fs.getD k Fa.none = fs[k] := by simp [List.getD, hlt]
            have HQ := Lib.hid (show bQ fs r k = wpQ fs[k].xs r by unfold bQ; rw [hg])
            have HW := Lib.hid (show bW fs r k = divR (prR fs[k].xs (bQ fs r k) * absR (bQ fs r k)) 100 by unfold bW; rw [hg])
            have HRR := Lib.hid hrr2
            have HY := Lib.hid (fun h1 h2 => bst_yes (fs := fs) (r := r) (n := n) (k := k) h1 h2)
            have HN := Lib.hid (fun h => bst_no (fs := fs) (r := r) (n := n) (k := k) h)
            clear hrr2 htt hg
            generalize fs[k] = f at *
            obtain ⟨s, a, xs⟩ := f
            dsimp only at c0 c1 c2 hcp
            subst hcp
            have HRS := Lib.hid (show RowsR wo R xs from HRR.out)
            have HSM := Lib.hid (show s.size ≤ 1048576 ∧ xs.length ≤ 1048576 ∧ ∀ r ∈ xs, r.length ≤ 1048576 from HF0.out)
            have HCC := Lib.hid (show curveOk xs = true from HC.out)
            have HQ2 := Lib.hid (show bQ fs r k = wpQ xs r from HQ.out)
            have HW2 := Lib.hid (show bW fs r k = divR (prR xs (bQ fs r k) * absR (bQ fs r k)) 100 from HW.out)
            clear HRR HF0 HC HQ HW
            obtain ⟨q, hq⟩ : ∃ q, bQ fs r k = q := ⟨_, rfl⟩
            obtain ⟨p, hp⟩ : ∃ p, bW fs r k = p := ⟨_, rfl⟩
            rw [hq, hp] at hwb
            have HQ3 := Lib.hid (show wpQ xs r = q by rw [← HQ2.out, hq])
            have HW3 := Lib.hid (show divR (prR xs q * absR q) 100 = p by rw [← hp, HW2.out, hq])
            have HQP := Lib.hid (And.intro hq hp)
            clear hq hp HQ2 HW2
            obtain ⟨⟨x, y⟩, hxy⟩ : ∃ xy, bst fs r n k = xy := ⟨_, rfl⟩
            rw [hxy] at hbb ⊢
            dsimp only at hbb ⊢
            have HXY := Lib.hid hxy
            clear hxy
            by_cases g1 : n ≤ q
            · by_cases g2 : x < 0
              · rw [if_pos g2, if_pos g2]
                have HF := Lib.hid (show bst fs r n (k + 1) = ((k : Int), p) by have h := HY.out (by rw [HQP.out.1]; exact g1) (by rw [HXY.out, HQP.out.2]; exact Or.inl g2); rw [h, HQP.out.2])
                go_wp2_with (first
                      | (go_at_call 63; (with_reducible refine (workingPoint_any s a R xs.length xs r _ hrr HCC.out (HRS.out.below (below_box _ _)) HSM.out.2.1 (by omega) (by have := HSM.out.2.1; omega)).mono ?_); rw [HQ3.out]; rintro e w1 ⟨rfl, hd1⟩)
                      | (go_at_call 66; (with_reducible refine (power_any q (prR xs q) _ ⟨by omega, by omega⟩ (prR_bd HCC.out q)).mono ?_); rw [HW3.out]; rintro e w2 ⟨rfl, hd2⟩; have q0 : w2.cell? ⟨w1.heap.size, 0, none⟩ = some (.int .i64 q) := cellK (by simp) hd2; have q1 : w2.cell? ⟨w1.heap.size, 1, none⟩ = some (.int .i64 (prR xs q)) := cellK (by simp) hd2)
                      | (go_at_call 66; (with_reducible refine (power_any q (prR xs q) _ ⟨by omega, by omega⟩ (prR_bd HCC.out q)).mono ?_); rw [HW3.out]; rintro e w3 ⟨rfl, hd3⟩))
                go_roundw
                case rel => exact ⟨k + 1, by omega, by rw [HF.out]; first | rfl | (simp; done) | (simp; omega), by rw [HF.out], by rw [HF.out]; first | rfl | (simp; done) | (simp; omega), by go_num, hbel.trans (((Below.alloc ((below_box _ _).trans (hd1.mono (by simp))) (by have := hd1.size; simp at this; omega) _).trans (hd2.mono (by have := hd1.size; simp at this ⊢; omega))).mono hbel.size)⟩
                case measure => simp [intOf]; omega
              · rw [if_neg g2, if_neg g2]
                by_cases g3 : p < y
                · skip
                  have HF := Lib.hid (show bst fs r n (k + 1) = ((k : Int), p) by have h := HY.out (by rw [HQP.out.1]; exact g1) (by rw [HXY.out, HQP.out.2]; exact Or.inr g3); rw [h, HQP.out.2])
                  go_wp2_with (first
                        | (go_at_call 63; (with_reducible refine (workingPoint_any s a R xs.length xs r _ hrr HCC.out (HRS.out.below (below_box _ _)) HSM.out.2.1 (by omega) (by have := HSM.out.2.1; omega)).mono ?_); rw [HQ3.out]; rintro e w1 ⟨rfl, hd1⟩)
                        | (go_at_call 66; (with_reducible refine (power_any q (prR xs q) _ ⟨by omega, by omega⟩ (prR_bd HCC.out q)).mono ?_); rw [HW3.out]; rintro e w2 ⟨rfl, hd2⟩; have q0 : w2.cell? ⟨w1.heap.size, 0, none⟩ = some (.int .i64 q) := cellK (by simp) hd2; have q1 : w2.cell? ⟨w1.heap.size, 1, none⟩ = some (.int .i64 (prR xs q)) := cellK (by simp) hd2)
                        | (go_at_call 66; (with_reducible refine (power_any q (prR xs q) _ ⟨by omega, by omega⟩ (prR_bd HCC.out q)).mono ?_); rw [HW3.out]; rintro e w3 ⟨rfl, hd3⟩))
                  go_roundw
                  case rel => exact ⟨k + 1, by omega, by rw [HF.out]; first | rfl | (simp; done) | (simp; omega), by rw [HF.out], by rw [HF.out]; first | rfl | (simp; done) | (simp; omega), by go_num, hbel.trans ((((Below.alloc ((below_box _ _).trans (hd1.mono (by simp))) (by have := hd1.size; simp at this; omega) _).trans (hd2.mono (by have := hd1.size; simp at this ⊢; omega))).trans (hd3.mono (by have := hd1.size; have := hd2.size; simp at *; omega))).mono hbel.size)⟩
                  case measure => simp [intOf]; omega
                · skip
                  have HF := Lib.hid (show bst fs r n (k + 1) = (x, y) by rw [HN.out (by rw [HXY.out, HQP.out.1, HQP.out.2]; exact fun h => h.2.elim g2 g3), HXY.out])
                  go_wp2_with (first
                        | (go_at_call 63; (with_reducible refine (workingPoint_any s a R xs.length xs r _ hrr HCC.out (HRS.out.below (below_box _ _)) HSM.out.2.1 (by omega) (by have := HSM.out.2.1; omega)).mono ?_); rw [HQ3.out]; rintro e w1 ⟨rfl, hd1⟩)
                        | (go_at_call 66; (with_reducible refine (power_any q (prR xs q) _ ⟨by omega, by omega⟩ (prR_bd HCC.out q)).mono ?_); rw [HW3.out]; rintro e w2 ⟨rfl, hd2⟩; have q0 : w2.cell? ⟨w1.heap.size, 0, none⟩ = some (.int .i64 q) := cellK (by simp) hd2; have q1 : w2.cell? ⟨w1.heap.size, 1, none⟩ = some (.int .i64 (prR xs q)) := cellK (by simp) hd2)
                        | (go_at_call 66; (with_reducible refine (power_any q (prR xs q) _ ⟨by omega, by omega⟩ (prR_bd HCC.out q)).mono ?_); rw [HW3.out]; rintro e w3 ⟨rfl, hd3⟩))
                  go_roundw
                  case rel => exact ⟨k + 1, by omega, by rw [HF.out]; first | rfl | (simp; done) | (simp; omega), by rw [HF.out], by rw [HF.out]; first | rfl | (simp; done) | (simp; omega), by go_num, hbel.trans (((Below.alloc ((below_box _ _).trans (hd1.mono (by simp))) (by have := hd1.size; simp at this; omega) _).trans (hd2.mono (by have := hd1.size; simp at this ⊢; omega))).mono hbel.size)⟩
                  case measure => simp [intOf]; omega
            · by_cases g2 : x < 0
              · rw [if_pos g2, if_pos g2]
                have HF := Lib.hid (show bst fs r n (k + 1) = (x, y) by rw [HN.out (by rw [HXY.out, HQP.out.1, HQP.out.2]; exact fun h => g1 h.1), HXY.out])
                go_wp2_with (first
                      | (go_at_call 63; (with_reducible refine (workingPoint_any s a R xs.length xs r _ hrr HCC.out (HRS.out.below (below_box _ _)) HSM.out.2.1 (by omega) (by have := HSM.out.2.1; omega)).mono ?_); rw [HQ3.out]; rintro e w1 ⟨rfl, hd1⟩)
                      | (go_at_call 66; (with_reducible refine (power_any q (prR xs q) _ ⟨by omega, by omega⟩ (prR_bd HCC.out q)).mono ?_); rw [HW3.out]; rintro e w2 ⟨rfl, hd2⟩; have q0 : w2.cell? ⟨w1.heap.size, 0, none⟩ = some (.int .i64 q) := cellK (by simp) hd2; have q1 : w2.cell? ⟨w1.heap.size, 1, none⟩ = some (.int .i64 (prR xs q)) := cellK (by simp) hd2)
                      | (go_at_call 66; (with_reducible refine (power_any q (prR xs q) _ ⟨by omega, by omega⟩ (prR_bd HCC.out q)).mono ?_); rw [HW3.out]; rintro e w3 ⟨rfl, hd3⟩))
                go_roundw
                case rel => exact ⟨k + 1, by omega, by rw [HF.out]; first | rfl | (simp; done) | (simp; omega), by rw [HF.out], by rw [HF.out]; first | rfl | (simp; done) | (simp; omega), by go_num, hbel.trans ((Below.alloc ((below_box _ _).trans (hd1.mono (by simp))) (by have := hd1.size; simp at this; omega) _).mono hbel.size)⟩
                case measure => simp [intOf]; omega
              · rw [if_neg g2, if_neg g2]
                have HF := Lib.hid (show bst fs r n (k + 1) = (x, y) by rw [HN.out (by rw [HXY.out, HQP.out.1, HQP.out.2]; exact fun h => g1 h.1), HXY.out])
                go_wp2_with (first
                      | (go_at_call 63; (with_reducible refine (workingPoint_any s a R xs.length xs r _ hrr HCC.out (HRS.out.below (below_box _ _)) HSM.out.2.1 (by omega) (by have := HSM.out.2.1; omega)).mono ?_); rw [HQ3.out]; rintro e w1 ⟨rfl, hd1⟩)
                      | (go_at_call 66; (with_reducible refine (power_any q (prR xs q) _ ⟨by omega, by omega⟩ (prR_bd HCC.out q)).mono ?_); rw [HW3.out]; rintro e w2 ⟨rfl, hd2⟩; have q0 : w2.cell? ⟨w1.heap.size, 0, none⟩ = some (.int .i64 q) := cellK (by simp) hd2; have q1 : w2.cell? ⟨w1.heap.size, 1, none⟩ = some (.int .i64 (prR xs q)) := cellK (by simp) hd2)
                      | (go_at_call 66; (with_reducible refine (power_any q (prR xs q) _ ⟨by omega, by omega⟩ (prR_bd HCC.out q)).mono ?_); rw [HW3.out]; rintro e w3 ⟨rfl, hd3⟩))
                go_roundw
                case rel => exact ⟨k + 1, by omega, by rw [HF.out]; first | rfl | (simp; done) | (simp; omega), by rw [HF.out], by rw [HF.out]; first | rfl | (simp; done) | (simp; omega), by go_num, hbel.trans ((Below.alloc ((below_box _ _).trans (hd1.mono (by simp))) (by have := hd1.size; simp at this; omega) _).mono hbel.size)⟩
                case measure => simp [intOf]; omega
          · obtain rfl : k = fs.length := by omega
            obtain ⟨⟨x, y⟩, hxy⟩ : ∃ xy, bst fs r n fs.length = xy := ⟨_, rfl⟩
            have HE2 := Lib.hid (show bfA fs r n = (if x < 0 then 0 else x) ∧ bfC fs r n = (if x < 0 then 3 else 0) by rw [HE.out.1, HE.out.2, hxy]; exact ⟨rfl, rfl⟩)
            rw [hxy] at hbb ⊢
            dsimp only at hbb ⊢
            clear hxy
            by_cases g2 : x < 0
            · rw [if_pos g2, if_pos g2]
              have HE3 := Lib.hid (show bfA fs r n = 0 ∧ bfC fs r n = 3 by rw [HE2.out.1, HE2.out.2, if_pos g2, if_pos g2]; exact ⟨rfl, rfl⟩)
              go_wp2
              go_ret2
              exact ⟨ret_two HE3.out.1.symm HE3.out.2.symm, hbel⟩
            · rw [if_neg g2, if_neg g2]
              have HE3 := Lib.hid (show bfA fs r n = x ∧ bfC fs r n = 0 by rw [HE2.out.1, HE2.out.2, if_neg g2, if_neg g2]; exact ⟨rfl, rfl⟩)
              go_wp2
              go_ret2
              exact ⟨ret_two HE3.out.1.symm HE3.out.2.symm, hbel⟩
      · have j1 := inB_false hnn
        have HE := Lib.hid (show bfA fs r n = 0 ∧ bfC fs r n = 2 by simp [bfA, bfC, hok, j0, j1])
        go_enter Try.func40, Try.ntmps40
        go_wp2_with (first
      | (go_at_call 21; (with_reducible refine (iValidFans_any True A cap fs _ HR.out hl HS.out).mono ?_); rintro e w0 ⟨rfl, hd0⟩)
      | (go_at_call 62; (with_reducible refine (isResistance_any r _).mono ?_); rintro e wr0 ⟨rfl, hdr0⟩)
      | (go_at_call 45; (with_reducible refine (within64_one _ _ _ _ _ _ (by simp)).mono ?_); rintro e w' ⟨rfl, rfl⟩))
        go_ret2
        exact ⟨ret_two HE.out.1.symm HE.out.2.symm, ((hd0.trans (hdr0.mono hd0.size)).alloc (by have := hd0.size; have := hdr0.size; omega) _)⟩
    · have j0 := inB_false hrr
      have HE := Lib.hid (show bfA fs r n = 0 ∧ bfC fs r n = 2 by simp [bfA, bfC, hok, j0])
      go_enter Try.func40, Try.ntmps40
      go_wp2_with (first
      | (go_at_call 21; (with_reducible refine (iValidFans_any True A cap fs _ HR.out hl HS.out).mono ?_); rintro e w0 ⟨rfl, hd0⟩)
      | (go_at_call 62; (with_reducible refine (isResistance_any r _).mono ?_); rintro e wr0 ⟨rfl, hdr0⟩)
      | (go_at_call 45; (with_reducible refine (within64_one _ _ _ _ _ _ (by simp)).mono ?_); rintro e w' ⟨rfl, rfl⟩))
      go_ret2
      exact ⟨ret_two HE.out.1.symm HE.out.2.symm, (hd0.trans (hdr0.mono hd0.size))⟩
end Go.Proofs.Ytcnpddmghjjhjaa
