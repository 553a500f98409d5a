/-
  Slices of rows of numbers: those that came in, their sizes, copies and comparisons. Conditions: those that each theorem states.
-/
import Derived.Test.YthbofhlfggkolaaDoorNh
import Derived.Test.YthbofhlfggkolaaDoorDa
import Derived.Deep.Slices
import Derived.Deep.LoopGhost
import Derived.ChangeSlices
import Derived.Lib.SmallJoins
import Derived.Laws.OwnMore
import Derived.Deep.OwnRows
import Derived.OwnWalk
import Derived.WalkSmall
import Derived.Deep.RegionWith
namespace Go.Proofs.YthbofhlfggkolaaDoor
open Go.RowKit Go.ChangeShapes Go.WideShapes Go.Deep
set_option linter.unusedVariables false
set_option linter.unusedSimpArgs false

/-- A slice that reads as rows of numbers, at whatever address if there are none. -/
def RowsR (w : World) (A : Option Addr) (xs : List (List Int)) : Prop :=
  ∀ k (h : k < xs.length), ∃ b off v, A = some ⟨b, off, none⟩ ∧ w.cell? ⟨b, off + k, none⟩ = some v ∧ RowW .i64 w v xs[k]
theorem RowsR.below {w w' : World} {A : Option Addr} {xs : List (List Int)} (h : RowsR w A xs) (hb : Below w.heap.size w w') : RowsR w' A xs := fun k hk => by
  obtain ⟨b, off, v, e, hc, hr⟩ := h k hk
  exact ⟨b, off, v, e, (hb.cell (p := ⟨b, off + k, none⟩) (World.block_lt_of_cell? (a := ⟨b, off + k, none⟩) _ hc)).trans hc, hr.below hb⟩
theorem RowsR.drewN {w : World} {A : Option Addr} {xs : List (List Int)} (h : RowsR w A xs) (n : Nat) : RowsR (w.drewN n) A xs := h
/-- One row: its slice and its cells. -/
theorem RowsR.row {w : World} {A : Option Addr} {xs : List (List Int)} (h : RowsR w A xs) {k : Nat} (hk : k < xs.length) :
    ∃ b off A' cap, A = some ⟨b, off, none⟩ ∧ w.cell? ⟨b, off + k, none⟩ = some (.slice A' xs[k].length cap) ∧ RowW .i64 w (.slice A' xs[k].length cap) xs[k] := by
  obtain ⟨b, off, v, e, hc, hr⟩ := h k hk
  obtain ⟨A', cap, rfl, hx⟩ := id hr
  exact ⟨b, off, A', cap, e, hc, hr⟩
/-- Rows of a size that any slice may have, with numbers that are int64s. -/
def rowsFit (xs : List (List Int)) : Prop := ∀ r ∈ xs, r.length ≤ maxLen ∧ ∀ n ∈ r, (Lit.int .i64 n).wf = true
theorem spot_noneR {w : World} {a : Addr} {v : Value} (h : w.cell? (a.add 0) = some v) : ∃ b off, a = ⟨b, off, none⟩ := by
  obtain ⟨b, off, sp⟩ := a
  cases sp with
  | none => exact ⟨b, off, rfl⟩
  | some q =>
    unfold Addr.add World.cell? at h
    rw [if_pos rfl] at h
    cases hq : w.heap[b]? with
    | none => simp [hq] at h
    | some o => cases o <;> simp [hq] at h
theorem add_layR (b off i : Nat) : (⟨b, off, none⟩ : Addr).add i = ⟨b, off + i, none⟩ := by
  unfold Addr.add
  split
  · rename_i h; subst h; rfl
  · rfl
/-- What is left of a size behind rows. -/
def szRs (left : Int) : List (List Int) → Int
  | [] => left
  | a :: r => if left - a.length < 0 then -1 else szRs (left - a.length) r
def szSS (left : Int) (xs : List (List Int)) : Int := if left - xs.length < 0 then -1 else szRs (left - xs.length) xs
theorem szRs_le : ∀ (xs : List (List Int)) (left : Int), 0 ≤ left → -1 ≤ szRs left xs ∧ szRs left xs ≤ left
  | [], left, h => ⟨by simp only [szRs]; omega, Int.le_refl _⟩
  | a :: r, left, h => by
    simp only [szRs]
    split
    · omega
    · have := szRs_le r (left - a.length) (by omega); omega
theorem szSS_bd {left : Int} {xs : List (List Int)} (h0 : 0 ≤ left) (h : 0 ≤ szSS left xs) : (xs.length : Int) ≤ left ∧ ∀ a ∈ xs, (a.length : Int) ≤ left := by
  unfold szSS at h
  split at h
  · omega
  · rename_i hl
    refine ⟨by omega, ?_⟩
    have key : ∀ (xs : List (List Int)) (left : Int), 0 ≤ left → 0 ≤ szRs left xs → ∀ a ∈ xs, (a.length : Int) ≤ left := by
      intro xs
      induction xs with
      | nil => intro _ _ _ a ha; cases ha
      | cons x r ih =>
        intro left h0 h a ha
        simp only [szRs] at h
        split at h
        · omega
        · rcases List.mem_cons.1 ha with rfl | ha
          · omega
          · have := ih _ (by omega) h a ha; omega
    intro a ha
    have := key xs _ (by omega) h a ha
    omega
theorem szSS_le {left : Int} {xs : List (List Int)} (h0 : 0 ≤ left) : -1 ≤ szSS left xs ∧ szSS left xs ≤ left := by
  unfold szSS
  split
  · omega
  · have := szRs_le xs (left - xs.length) (by omega); omega
/-- Rows that a call made: each in a block of its own, from B on. -/
structure OwnRs (w : World) (B : Nat) (vs : List Value) (xs : List (List Int)) : Prop where
  len : vs.length = xs.length
  own : ∀ k (h : k < vs.length) (h' : k < xs.length), OwnI w B vs[k] xs[k]
  apart : ∀ i j (hi : i < vs.length) (hj : j < vs.length), i < j → ∀ b, vs[i].ownBlock = some b → vs[j].ownBlock ≠ some b
theorem OwnRs.nil (w : World) (B : Nat) : OwnRs w B [] [] := ⟨rfl, fun k h => absurd h (by simp), fun i j hi => absurd hi (by simp)⟩
theorem OwnRs.below {w w' : World} {B : Nat} {vs : List Value} {xs : List (List Int)} (h : OwnRs w B vs xs) (hb : Below w.heap.size w w') : OwnRs w' B vs xs :=
  ⟨h.len, fun k a b => (h.own k a b).below hb, h.apart⟩
theorem OwnI.mono {w : World} {B B' : Nat} {v : Value} {xs : List Int} (h : OwnI w B v xs) (hb : B' ≤ B) : OwnI w B' v xs := ⟨h.1, h.2.imp id fun ⟨g, cap, cur, e, hg, r⟩ => ⟨g, cap, cur, e, Nat.le_trans hb hg, r⟩⟩
theorem OwnRs.mono {w : World} {B B' : Nat} {vs : List Value} {xs : List (List Int)} (h : OwnRs w B vs xs) (hb : B' ≤ B) : OwnRs w B' vs xs :=
  ⟨h.len, fun k a b => (h.own k a b).mono hb, h.apart⟩
theorem OwnRs.snoc {w : World} {B B' : Nat} {vs : List Value} {xs : List (List Int)} {v : Value} {x : List Int} (h : OwnRs w B vs xs) (hv : OwnI w B' v x) (hb : B ≤ B')
    (hB : ∀ k (h : k < vs.length), ∀ b, vs[k].ownBlock = some b → b < B') : OwnRs w B (vs ++ [v]) (xs ++ [x]) := by
  refine ⟨by simp [h.len], fun k h1 h2 => ?_, fun i j hi hj hij b hbi hbj => ?_⟩
  · by_cases hk : k < vs.length
    · rw [List.getElem_append_left hk, List.getElem_append_left (by rw [← h.len]; exact hk)]
      exact h.own k hk _
    · have h3 : k = vs.length := by simp at h1; omega
      subst h3
      rw [List.getElem_append_right (Nat.le_refl _), List.getElem_append_right (by rw [h.len]; exact Nat.le_refl _)]
      simpa [h.len] using hv.mono hb
  · have hi' : i < vs.length := by simp at hj; omega
    rw [List.getElem_append_left hi'] at hbi
    by_cases hj' : j < vs.length
    · rw [List.getElem_append_left hj'] at hbj
      exact h.apart i j hi' hj' hij b hbi hbj
    · have h3 : j = vs.length := by simp at hj; omega
      subst h3
      rw [List.getElem_append_right (Nat.le_refl _)] at hbj
      simp at hbj
      have := hB i hi' b hbi
      have := (World.ownsRow.lt hv b hbj).1
      omega
/-- A slice of rows that a call made, the outer block apart from the rows'. -/
def OwnSS (w : World) (B : Nat) (v : Value) (xs : List (List Int)) : Prop :=
  ∃ vs, w.ownsRow B 36 1 v xs.length vs ∧ OwnRs w B vs xs ∧ ∀ k (h : k < vs.length), ∀ b, vs[k].ownBlock = some b → v.ownBlock ≠ some b
theorem OwnSS.below {w w' : World} {B : Nat} {v : Value} {xs : List (List Int)} (h : OwnSS w B v xs) (hb : Below w.heap.size w w') : OwnSS w' B v xs := by
  obtain ⟨vs, h1, h2, h3⟩ := h
  exact ⟨vs, own_below h1 hb, h2.below hb, h3⟩
theorem OwnSS.form {w : World} {B : Nat} {v : Value} {xs : List (List Int)} (h : OwnSS w B v xs) : ∃ A cap, v = .slice A xs.length cap := by
  obtain ⟨vs, h1, -⟩ := h
  rcases h1.2 with ⟨rfl, h0⟩ | ⟨g, cap, cur, rfl, hr⟩
  · exact ⟨none, 0, by rw [h0]⟩
  · exact ⟨_, cap, rfl⟩
theorem OwnSS.rows {w : World} {B : Nat} {A : Option Addr} {n cap : Nat} {xs : List (List Int)} (h : OwnSS w B (.slice A n cap) xs) : RowsR w A xs := by
  obtain ⟨vs, h1, h2, -⟩ := h
  intro k hk
  rcases id h1.2 with ⟨e, h0⟩ | ⟨g, cap', cur, e, hr⟩
  · omega
  · injection e with e1 e2 e3
    subst e1
    subst e2
    subst e3
    refine ⟨g, 0, vs[k]'(by rw [h2.len]; exact hk), rfl, ?_, RowW.of_ownI (h2.own k (by rw [h2.len]; exact hk) hk)⟩
    rw [Nat.zero_add, h1.cellAt k (by omega), List.getElem?_eq_getElem]
theorem info_rows : (Tryd.prog.info? 36).map (fun i => (i.zero, i.size, i.bytes)) = some (some (.slice none 0 0), 1, 24) := by kernel_rfl
theorem toSS_put {vs : List Value} {n : Nat} (h : vs.length < n) (u z : Value) : (vs ++ List.replicate (n - vs.length) z).set vs.length u = (vs ++ [u]) ++ List.replicate (n - (vs.length + 1)) z := by
  rw [List.set_append_right _ _ (Nat.le_refl _), Nat.sub_self, show n - vs.length = (n - (vs.length + 1)) + 1 by omega, List.replicate_succ, List.set_cons_zero, List.append_assoc]
  rfl
end Go.Proofs.YthbofhlfggkolaaDoor
