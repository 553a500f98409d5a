/-
  MeshesOf's rows: sizes; rows of rows far from a block. Conditions: those that each theorem states.
-/
import Derived.Test.YtjooebiiceillaaUx
import Derived.Test.YtjooebiiceillaaUy
namespace Go.Proofs.Ytjooebiiceillaa
open Go.RowKit
set_option linter.unusedVariables false
set_option linter.unusedSimpArgs false

theorem msR_LEN (J : Int) (xs : List Aw) : (msR J xs).length ≤ 24 := by
  unfold msR
  split
  · rename_i h
    have h1 := (mineOk_iff.1 h).2.2
    have h2 := mshT_len J.toNat xs xs.length
    omega
  · simp
theorem msR_17 (J : Int) (xs : List Aw) : ∀ r ∈ msR J xs, r.length ≤ 17 := by
  unfold msR
  split
  · rename_i h
    have h1 := (mineOk_iff.1 h).1
    intro r hr
    have h2 := mshT_row xs.length r hr
    omega
  · intro r hr; cases hr
theorem msR_ROW (J : Int) (xs : List Aw) : ∀ r ∈ msR J xs, r.length ≤ 1048576 := fun r hr => Nat.le_trans (msR_17 J xs r hr) (by omega)
theorem totS_le {L : List (List Int)} {c : Nat} (h : ∀ r ∈ L, r.length ≤ c) : ∀ i, totS L i ≤ i * c
  | 0 => by simp [totS]
  | i + 1 => by
    have ih := totS_le h i
    have h2 : (L.getD i []).length ≤ c := by
      by_cases q : i < L.length
      · rw [show L.getD i [] = L[i] by simp [List.getD, q]]; exact h _ (List.getElem_mem q)
      · rw [show L.getD i [] = [] by simp [List.getD, Nat.not_lt.1 q]]; simp
    rw [totS, Nat.add_mul]
    omega
theorem msR_TOT (J : Int) (xs : List Aw) : totS (msR J xs) (msR J xs).length ≤ 100000 := by
  have h1 := totS_le (msR_17 J xs) (msR J xs).length
  have h2 := msR_LEN J xs
  have h3 : (msR J xs).length * 17 ≤ 24 * 17 := Nat.mul_le_mul_right 17 h2
  omega
theorem OwnSS.far_hi {w w' : World} {B g : Nat} {v : Value} {xs : List (List Int)} (h : OwnSS w B v xs) (hg : w.grownBy w' (some g)) (hlt : g < B) : OwnSS w' B v xs := by
  obtain ⟨vs, h1, h2, h3⟩ := h
  have far : ∀ {u : Value} {n : Nat} {T : TypeId} {l : List Value}, w.ownsRow B T 1 u n l → w'.ownsRow B T 1 u n l := fun hu => World.ownsRow.kept hu hg (Or.inr (fun e => by have := (World.ownsRow.lt hu g e).1; omega))
  exact ⟨vs, far h1, ⟨h2.len, fun k a b => far (h2.own k a b), h2.apart⟩, h3⟩
end Go.Proofs.Ytjooebiiceillaa
