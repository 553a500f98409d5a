/-
  Leaks, plain mathematics: what is needed, the longest duct, measured flows. Conditions: those that each theorem states.
-/
import Derived.Test.YtoojndohddellaaGreatDoorLc
namespace Go.Proofs.YtoojndohddellaaGreatDoor
open Go.RowKit
set_option linter.unusedVariables false
set_option linter.unusedSimpArgs false

theorem quo_one {j : Int} (k : Nat) (hj : 5 ≤ j) : (((k + 1 : Nat) : Int) * j - 1) / j = (k : Int) :=
  ((Int.ediv_emod_unique (by omega : 0 < j)).2 ⟨show (j - 1) + j * (k : Int) = ((k + 1 : Nat) : Int) * j - 1 by
    rw [Int.mul_comm j, show ((k + 1 : Nat) : Int) = (k : Int) + 1 by omega, Int.add_mul, Int.one_mul]; omega, by omega, by omega⟩).1
theorem quo_two {j : Int} (k : Nat) (hj : 5 ≤ j) (h1 : (k : Int) * j < 2000) (h2 : ¬ (k : Int) * j + j ≤ 2000) : ((2000 : Int) - 1) / j = (k : Int) :=
  ((Int.ediv_emod_unique (by omega : 0 < j)).2 ⟨show (1999 - j * (k : Int)) + j * (k : Int) = 2000 - 1 by omega, by rw [Int.mul_comm]; omega, by rw [Int.mul_comm]; omega⟩).1
theorem ldG_reach {lo j need : Int} (hj : 5 ≤ j) (q0 : Int) : ∀ (n k : Nat), (k = 0 ∨ ∃ p, k = p + 1 ∧ need ≤ aft lo p q0) → (ldG lo j need n (aft lo k q0) ((k : Int) * j) = 0 ∧ k = 0) ∨ need ≤ aft lo ((ldG lo j need n (aft lo k q0) ((k : Int) * j) - 1) / j).toNat q0
  | 0, k, h => by
    rcases h with rfl | ⟨p, rfl, h⟩
    · left; simp [ldG]
    · right
      rw [ldG, quo_one p hj]
      simpa using h
  | n + 1, k, h => by
    by_cases hc : (k : Int) * j < 2000 ∧ need ≤ aft lo k q0
    · rw [ldG, if_pos hc]
      by_cases h2 : (k : Int) * j + j ≤ 2000
      · rw [if_pos h2]
        have e : (k : Int) * j + j = ((k + 1 : Nat) : Int) * j := by rw [show ((k + 1 : Nat) : Int) = (k : Int) + 1 by omega, Int.add_mul, Int.one_mul]
        have ih := ldG_reach (lo := lo) (need := need) hj q0 n (k + 1) (Or.inr ⟨k, rfl, hc.2⟩)
        rcases ih with ⟨-, h3⟩ | ih
        · omega
        · right
          rw [e]
          exact ih
      · rw [if_neg h2, ldG_end n (by omega), quo_two k hj hc.1 h2]
        right
        simpa using hc.2
    · rw [ldG, if_neg hc]
      rcases h with rfl | ⟨p, rfl, h⟩
      · left; simp
      · right
        rw [quo_one p hj]
        simpa using h
theorem ldG_max {lo j need : Int} : ∀ (n : Nat) (q l : Int), l ≤ 2000 → ldG lo j need n q l ≤ 2000
  | 0, _, _, h => h
  | n + 1, q, l, h => by
    rw [ldG]
    split
    · split
      · exact ldG_max n _ _ (by assumption)
      · exact ldG_max n _ _ (by omega)
    · exact h
theorem ldL_max (lo j need q : Int) : ldL lo j need q ≤ 2000 := ldG_max _ _ _ (by omega)
theorem ldL_reach {lo j need q : Int} (hj : 5 ≤ j) (h : need ≤ q) : need ≤ aft lo (duJ (ldL lo j need q) j).toNat q := by
  have h1 := ldL_pos (lo := lo) hj h
  have h2 := ldG_reach (lo := lo) (need := need) hj q 2000 0 (Or.inl rfl)
  rw [show ((0 : Nat) : Int) * j = 0 by simp] at h2
  rcases h2 with ⟨h3, -⟩ | h2
  · exfalso
    have : ldL lo j need q = 0 := h3
    omega
  · exact h2
/-- What FnLeaks asks of a duct. -/
theorem leak_duct {s : ByteArray} {l j lo q : Int} (hok : duOk s l j lo = true) (hq : 0 ≤ q) (hq2 : q < 5000) :
    ∃ E M L T D : Int, (feA s l j lo q = E ∧ feB s l j lo q = 0) ∧ (joA s l j lo = duJ l j ∧ joB s l j lo = 0) ∧ (faA s l j lo q (duJ l j) = E ∧ faB s l j lo q (duJ l j) = 0) ∧ (0 ≤ E ∧ E ≤ q) ∧
      (fnA s l j lo E = M ∧ fnB s l j lo E = 0) ∧ (E ≤ M ∧ M ≤ q) ∧ (feA s l j lo M = D ∧ feB s l j lo M = 0 ∧ E ≤ D) ∧ (0 < M → feB s l j lo (M - 1) = 0 ∧ feA s l j lo (M - 1) < E) ∧
      (ldA s l j lo q E = L ∧ ldB s l j lo q E = 0 ∧ 1 ≤ L ∧ L ≤ 2000) ∧ (feA s L j lo q = T ∧ feB s L j lo q = 0 ∧ E ≤ T) := by
  obtain ⟨hn, hl, hj, hlo⟩ := duOk_bd hok
  have hJ := duJ_bd hl.1 hl.2 hj.1
  have hE := aft_bd hlo.1 hlo.2 hq (duJ l j).toNat
  have iq : inB q 0 100000 = true := inB_true hq (by omega)
  have iE : inB (aft lo (duJ l j).toNat q) 0 100000 = true := inB_true hE.1 (by omega)
  have ik : inB (duJ l j) 0 (duJ l j) = true := inB_true hJ.1 (Int.le_refl _)
  obtain ⟨m1, m2, m3⟩ := fnM_spec (lo := lo) (need := aft lo (duJ l j).toNat q) (n := (duJ l j).toNat) hlo.1 hlo.2
  have hmq : (fnM lo (duJ l j).toNat (aft lo (duJ l j).toNat q) : Int) ≤ q := by
    apply Int.not_lt.1
    intro h
    have h1 := m2 q.toNat (by omega)
    rw [show ((q.toNat : Nat) : Int) = q by omega] at h1
    omega
  have hM0 := m3 _ (Nat.le_refl _) (by omega)
  have hMb := aft_bd hlo.1 hlo.2 (show (0 : Int) ≤ (fnM lo (duJ l j).toNat (aft lo (duJ l j).toNat q) : Int) by omega) (duJ l j).toNat
  have hL1 := ldL_pos (lo := lo) hj.1 hE.2
  have hL2 := ldL_max lo j (aft lo (duJ l j).toNat q) q
  have hL3 := ldL_reach (lo := lo) hj.1 hE.2
  have okL : duOk s (ldL lo j (aft lo (duJ l j).toNat q) q) j lo = true := by
    simp only [duOk, Bool.and_eq_true, inB_iff]
    exact ⟨hn, ⟨by omega, hL2⟩, hj, hlo⟩
  refine ⟨aft lo (duJ l j).toNat q, (fnM lo (duJ l j).toNat (aft lo (duJ l j).toNat q) : Int), ldL lo j (aft lo (duJ l j).toNat q) q, aft lo (duJ (ldL lo j (aft lo (duJ l j).toNat q) q) j).toNat q, aft lo (duJ l j).toNat (fnM lo (duJ l j).toNat (aft lo (duJ l j).toNat q) : Int),
    ⟨by simp [feA, hok, iq], by simp [feB, hok, iq]⟩, ⟨by simp [joA, hok], by simp [joB, hok]⟩, ⟨by simp [faA, hok, iq, ik], by simp [faB, hok, iq, ik]⟩, hE, ?_, ⟨by omega, hmq⟩, ?_, ?_, ?_, ?_⟩
  · have h : fnM lo (duJ l j).toNat (aft lo (duJ l j).toNat q) < 100001 := by omega
    exact ⟨by simp [fnA, hok, iE, h], by simp [fnB, hok, iE, h]⟩
  · have i1 : inB (fnM lo (duJ l j).toNat (aft lo (duJ l j).toNat q) : Int) 0 100000 = true := inB_true (by omega) (by omega)
    exact ⟨by simp [feA, hok, i1], by simp [feB, hok, i1], hM0⟩
  · intro h0
    have i1 : inB ((fnM lo (duJ l j).toNat (aft lo (duJ l j).toNat q) : Int) - 1) 0 100000 = true := inB_true (by omega) (by omega)
    have h1 := m2 (fnM lo (duJ l j).toNat (aft lo (duJ l j).toNat q) - 1) (by omega)
    rw [show ((fnM lo (duJ l j).toNat (aft lo (duJ l j).toNat q) - 1 : Nat) : Int) = (fnM lo (duJ l j).toNat (aft lo (duJ l j).toNat q) : Int) - 1 by omega] at h1
    exact ⟨by simp [feB, hok, i1], by simpa [feA, hok, i1] using h1⟩
  · exact ⟨by simp [ldA, hok, iq, iE, hE.2], by simp [ldB, hok, iq, iE, hE.2], by omega, hL2⟩
  · exact ⟨by simp [feA, okL, iq], by simp [feB, okL, iq], hL3⟩
theorem max0_bd (x r : Int) (h : 0 ≤ x) (h1 : 0 ≤ r) : 0 ≤ (if 0 < x - r then x - r else 0) ∧ (if 0 < x - r then x - r else 0) ≤ x := by split <;> omega
/-- What FnLeaks asks of measured flows: six that do not grow. -/
theorem leak_flows {xs : List Int} {q : Int} {k : Nat} (h6 : xs.length = 6) (h0 : xs.getD 0 0 = q) (hq : q < 5000) (hd : ∀ j : Nat, j < 5 → 0 ≤ xs.getD (j + 1) 0 ∧ xs.getD (j + 1) 0 ≤ xs.getD j 0) (hq0 : 0 ≤ q) (hk : k < 5) :
    mfC xs = 0 ∧ (loR xs = lsT xs 5 ∧ (lsT xs 5).sum = q - xs.getD 5 0) ∧ (mjR xs (k : Int) = mjT xs k 6 ∧ mjB xs (k : Int) = 0) ∧ ((mjT xs k 6).getD 0 0 = q ∧ xs.getD 5 0 ≤ (mjT xs k 6).getD 5 0 ∧ (mjT xs k 6).getD 5 0 ≤ q) ∧
      (mlA xs = divR (q - xs.getD 5 0) 5 ∧ mlB xs = 0) ∧ (0 ≤ xs.getD 5 0 ∧ xs.getD 5 0 ≤ q) := by
  have a0 := hd 0 (by omega)
  have a1 := hd 1 (by omega)
  have a2 := hd 2 (by omega)
  have a3 := hd 3 (by omega)
  have a4 := hd 4 (by omega)
  simp only [Nat.zero_add, Nat.reduceAdd] at a0 a1 a2 a3 a4
  have hall : allR 0 100000 xs = true := allR_iff.2 (fun y hy => by
    obtain ⟨j, hj, rfl⟩ := List.mem_iff_getElem.1 hy
    rw [← show xs.getD j 0 = xs[j] by simp [List.getD, hj]]
    have : j = 0 ∨ j = 1 ∨ j = 2 ∨ j = 3 ∨ j = 4 ∨ j = 5 := by omega
    rcases this with rfl | rfl | rfl | rfl | rfl | rfl <;> omega)
  have hno : noR xs = true := noR_iff.2 (fun j hj => (hd j (by omega)).2)
  have hc : mfC xs = 0 := by simp [mfC, hall, hno, h6]
  have e5 : (lsT xs 5).sum = q - xs.getD 5 0 := by rw [lsT_sum, h0]
  have hin : inB (k : Int) 0 ((xs.length : Int) - 2) = true := inB_true (by omega) (by omega)
  have g0 : (mjT xs k 6).getD 0 0 = q := by
    rw [show (mjT xs k 6).getD 0 0 = mjF xs k 0 by simp [mjT, List.getD]]
    unfold mjF; rw [if_pos (by omega), h0]
  have g5 : (mjT xs k 6).getD 5 0 = xs.getD 5 0 + lsF xs k := by
    rw [show (mjT xs k 6).getD 5 0 = mjF xs k 5 by simp [mjT, List.getD]]
    unfold mjF; rw [if_neg (by omega)]
  have hlk : 0 ≤ lsF xs k ∧ xs.getD 5 0 + lsF xs k ≤ q := by
    unfold lsF
    have : k = 0 ∨ k = 1 ∨ k = 2 ∨ k = 3 ∨ k = 4 := by omega
    rcases this with rfl | rfl | rfl | rfl | rfl <;> simp only [Nat.zero_add, Nat.reduceAdd] <;> omega
  refine ⟨hc, ⟨by simp [loR, hc, h6], e5⟩, ⟨by unfold mjR; rw [if_pos ⟨hc, hin⟩, h6]; simp, by unfold mjB; rw [if_pos hc, hin]; rfl⟩, ⟨g0, by omega, by omega⟩, ⟨by unfold mlA; rw [if_pos hc, if_pos (by omega), h0, h6]; rfl, by simp [mlB, hc, h6]⟩, by omega, by omega⟩
theorem mean_near {s m : Int} (h0 : 0 ≤ s) (hm : divR s 5 = m) : -3 ≤ 5 * m - s ∧ 5 * m - s ≤ 3 := by
  rw [divR_pp s 5 h0 (by omega)] at hm
  omega
end Go.Proofs.YtoojndohddellaaGreatDoor
