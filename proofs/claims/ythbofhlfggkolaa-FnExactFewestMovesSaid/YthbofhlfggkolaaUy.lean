/-
  Marks on rows of rows. Conditions: those that each theorem states.
-/
import Derived.Test.YthbofhlfggkolaaRa
import Derived.Test.YthbofhlfggkolaaNh
namespace Go.Proofs.Ythbofhlfggkolaa
open Go.RowKit
set_option linter.unusedVariables false
set_option linter.unusedSimpArgs false

/-- How many numbers the first i rows have. -/
def totS (xs : List (List Int)) : Nat → Nat
  | 0 => 0
  | i + 1 => totS xs i + (xs.getD i []).length
/-- The rows, the first i of them marked from k on. -/
def mkS (k : Int) (xs : List (List Int)) (i : Nat) : List (List Int) := (List.range xs.length).map (fun j => if j < i then marks (k + totS xs j) (xs.getD j []).length else xs.getD j [])
theorem mkS_len (k : Int) (xs : List (List Int)) (i : Nat) : (mkS k xs i).length = xs.length := by simp [mkS]
theorem mkS_zero (k : Int) (xs : List (List Int)) : mkS k xs 0 = xs := by
  apply List.ext_getElem (by simp [mkS])
  intro j h1 h2
  simp [mkS, List.getD, h2]
theorem mkS_at {k : Int} {xs : List (List Int)} {i : Nat} (h : i < xs.length) : (mkS k xs i)[i]'(by rw [mkS_len]; exact h) = xs[i] := by simp [mkS, List.getD, h]
theorem mkS_done {k : Int} {xs : List (List Int)} {n i : Nat} (h : i < xs.length) (hn : i < n) : (mkS k xs n)[i]'(by rw [mkS_len]; exact h) = marks (k + totS xs i) xs[i].length := by simp [mkS, List.getD, h, hn]
theorem mkS_put {k : Int} {xs : List (List Int)} {i : Nat} (h : i < xs.length) : (mkS k xs i).set i (marks (k + totS xs i) xs[i].length) = mkS k xs (i + 1) := by
  apply List.ext_getElem (by simp [mkS])
  intro j h3 h4
  have hj : j < xs.length := by simpa [mkS] using h4
  simp only [List.getElem_set, mkS, List.getElem_map, List.getElem_range]
  by_cases e : i = j
  · subst e; rw [if_pos rfl, if_pos (by omega)]; simp [List.getD, h]
  · rw [if_neg e]
    by_cases q : j < i
    · rw [if_pos q, if_pos (by omega)]
    · rw [if_neg q, if_neg (by omega)]
theorem totS_succ {xs : List (List Int)} {i : Nat} (h : i < xs.length) : totS xs (i + 1) = totS xs i + xs[i].length := by rw [totS]; simp [List.getD, h]
theorem totS_mono {xs : List (List Int)} (i : Nat) : ∀ d, totS xs i ≤ totS xs (i + d)
  | 0 => Nat.le_refl _
  | d + 1 => by rw [show i + (d + 1) = (i + d) + 1 by omega, totS]; have := totS_mono (xs := xs) i d; omega
theorem ss_mark {w w' : World} {B : Nat} {v : Value} {vs : List Value} {L : List (List Int)} {r : List Int} {j : Nat} (h1 : w.ownsRow B 43 1 v L.length vs) (h2 : OwnRs w B vs L) (h3 : ∀ k (h : k < vs.length), ∀ b, vs[k].ownBlock = some b → v.ownBlock ≠ some b)
    (hj : j < vs.length) (hr : OwnI w' B vs[j] r) (hg : w.grownBy w' vs[j].ownBlock) : OwnSS w' B v (L.set j r) := by
  refine ⟨vs, ?_, ⟨by rw [List.length_set]; exact h2.len, fun i a b => ?_, h2.apart⟩, h3⟩
  · rw [List.length_set]
    refine h1.kept hg ?_
    cases e : v.ownBlock with
    | none => exact Or.inl rfl
    | some q => exact Or.inr (fun e3 => h3 j hj q e3.symm e)
  · by_cases e : j = i
    · subst e
      rw [List.getElem_set_self]
      exact hr
    · rw [List.getElem_set_ne e]
      refine (h2.own i a (by rw [← h2.len]; exact a)).kept hg ?_
      cases e2 : vs[i].ownBlock with
      | none => exact Or.inl rfl
      | some q =>
        refine Or.inr (fun e3 => ?_)
        rcases Nat.lt_or_gt_of_ne e with q1 | q1
        · exact h2.apart j i hj a q1 q e3.symm e2
        · exact h2.apart i j a hj q1 q e2 e3.symm
set_option maxHeartbeats 2000000 in
theorem markInt64SS_any (B : Nat) (v : Value) (xs : List (List Int)) (k : Int) (w : World) (hv : OwnSS w B v xs) (hB : B ≤ w.heap.size) (hl : xs.length ≤ 1000) (hk : 0 ≤ k ∧ k ≤ 1000) (ht : totS xs xs.length ≤ 100000) :
    Calls Try.prog 34 #[v, .int .i64 k] w fun e w' => e = .returned (.int .i64 (k + totS xs xs.length)) ∧ OwnSS w' B v (mkS k xs xs.length) ∧ Below B w w' := by
  obtain ⟨A, cap, rfl⟩ := hv.form
  have HV := Lib.hid hv
  clear hv
  go_enter Try.func34, Try.ntmps34
  go_wp2
  go_loopw [1, 5] (fun kv iv wr => ∃ i : Nat, i ≤ xs.length ∧ iv = .int .i64 (i : Int) ∧ kv = .int .i64 (k + totS xs i) ∧ Hid (OwnSS wr B (.slice A xs.length cap) (mkS k xs i)) ∧ Hid (Below B w wr)) (fun kv iv wr => xs.length - (intOf iv).toNat)
  case atStart => exact ⟨0, by omega, rfl, by simp [totS], Lib.hid (by rw [mkS_zero]; exact HV.out), Lib.hid (Below.refl _ _)⟩
  case round =>
    obtain ⟨i, hi, rfl, rfl, HO, HB⟩ := hrel
    by_cases hlt : i < xs.length
    · have hiI : (i : Int) < (xs.length : Int) := by omega
      obtain ⟨vs, h1, h2, h3⟩ := HO.out
      have hvl : i < vs.length := by rw [h2.len, mkS_len]; exact hlt
      rw [mkS_len] at h1
      rcases id h1.2 with ⟨e, h0⟩ | ⟨g, cap', cur, e, hr⟩
      · omega
      injection e with e1 e2 e3
      subst e1 e3
      clear e2 hr
      have hc : wr.cell? ⟨g, i, none⟩ = some vs[i] := by rw [h1.cellAt i (by omega), List.getElem?_eq_getElem hvl]
      have hown := h2.own i hvl (by rw [mkS_len]; exact hlt)
      rw [mkS_at hlt] at hown
      have HS := Lib.hid (show ∀ (r : List Int) (w' : World), OwnI w' B vs[i] r → wr.grownBy w' vs[i].ownBlock → OwnSS w' B (.slice (some ⟨g, 0, none⟩) xs.length cap) ((mkS k xs i).set i r) from fun r w' hr hg => ss_mark (by rw [mkS_len]; exact h1) h2 h3 hvl hr hg)
      have HP := Lib.hid (mkS_put (k := k) hlt)
      have HTS := Lib.hid (totS_succ hlt)
      have hle := totS_mono (xs := xs) (i + 1) (xs.length - (i + 1))
      rw [show i + 1 + (xs.length - (i + 1)) = xs.length by omega, totS_succ hlt] at hle
      clear h1 h2 h3
      generalize vs[i] = vi at *
      generalize xs[i] = X at *
      obtain ⟨uA, uc, rfl⟩ := hown.form
      have HW := Lib.hid hown
      have hBw : B ≤ wr.heap.size := Nat.le_trans hB HB.out.size
      clear hown
      go_wp2_with fail
      (with_reducible refine (markInt64S_any B _ X (k + totS xs i) _ HW.out (by omega) (by omega)).mono ?_)
      rintro e w2 ⟨rfl, ho, hg⟩
      have HO2 := Lib.hid (show OwnSS w2 B (.slice (some ⟨g, 0, none⟩) xs.length cap) (mkS k xs (i + 1)) from by rw [← HP.out]; exact HS.out _ _ ho hg)
      have HB2 := Lib.hid (HB.out.grown hg hBw (fun j hj => (World.ownsRow.lt HW.out j hj).1))
      have hi1 : (i : Int) ≤ 1000 := by omega
      clear ho hg
      go_wp2
      go_roundw
      case rel => exact ⟨i + 1, by omega, by go_num, by rw [HTS.out]; congr 1; omega, HO2, HB2⟩
      case measure => simp [intOf]; omega
    · obtain rfl : i = xs.length := by omega
      go_wp2
      go_ret
      exact ⟨rfl, HO.out, HB.out⟩
end Go.Proofs.Ythbofhlfggkolaa
