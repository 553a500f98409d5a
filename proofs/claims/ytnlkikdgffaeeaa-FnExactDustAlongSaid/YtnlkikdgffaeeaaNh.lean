/-
  Contracts of the laws' helpers on slices of int64 that a call made: held against each other, marked, and looked at again. Conditions: those that each theorem states.
-/
import Derived.Test.YtnlkikdgffaeeaaSa
namespace Go.Proofs.Ytnlkikdgffaeeaa
open Go.RowKit
set_option linter.unusedVariables false
set_option linter.unusedSimpArgs false

/-- A row of numbers that a call made, in blocks from B on. -/
def OwnI (w : World) (B : Nat) (v : Value) (xs : List Int) : Prop := w.ownsRow B 2 1 v xs.length (intsV xs)
theorem RowW.of_ownI {w : World} {B : Nat} {v : Value} {xs : List Int} (h : OwnI w B v xs) : RowW .i64 w v xs := by
  rcases h.2 with ⟨rfl, h0⟩ | ⟨g, cap, cur, rfl, hr⟩
  · exact ⟨none, 0, by rw [h0], fun j hj => absurd hj (by omega)⟩
  · refine ⟨_, cap, rfl, fun j hj => ⟨g, 0, rfl, ?_⟩⟩
    have hh : w.ownsRow B 2 1 (.slice (some ⟨g, 0, none⟩) xs.length cap) xs.length (intsV xs) := h
    rw [Nat.zero_add, hh.cellAt j (by omega)]
    simp [intsV, List.getElem?_eq_getElem hj]
theorem eqInt64S_w (v v' : Value) (xs : List Int) (w : World) (hv : RowW .i64 w v xs) (hv' : RowW .i64 w v' xs) (hl : xs.length ≤ 4000000000000000000) :
    Calls Try.prog 28 #[v, v'] w fun e w' => e = .returned (.bool true) ∧ ∃ n, w' = w.drewN n := by
  obtain ⟨A, cap, rfl, _⟩ := id hv
  obtain ⟨A', cap', rfl, _⟩ := id hv'
  have HV := Lib.hid (And.intro hv hv')
  clear hv hv'
  go_enter Try.func28, Try.ntmps28
  go_wp2
  go_loopw [5] (fun i wr => ∃ k n : Nat, k ≤ xs.length ∧ i = .int .i64 k ∧ wr = w.drewN n) (fun i wr => xs.length - (intOf i).toNat)
  case atStart => exact ⟨0, 0, by omega, rfl, rfl⟩
  case round =>
    obtain ⟨k, n, hk, rfl, rfl⟩ := hrel
    by_cases hlt : k < xs.length
    · obtain ⟨b, off, rfl, _, hc⟩ := RowW.cell HV.out.1 hlt
      obtain ⟨b', off', rfl, _, hc'⟩ := RowW.cell HV.out.2 hlt
      generalize xs.getD k 0 = z at *
      go_wp2
      go_quiet (fail)
      go_wp2
      go_roundw
      case rel => exact ⟨k + 1, _, by omega, by go_num, rfl⟩
      case measure => simp [intOf]; omega
    · go_wp2
      go_ret
      exact ⟨rfl, n, rfl⟩
/-- The marks that are laid into a row. -/
def marks (k : Int) : Nat → List Int
  | 0 => []
  | n + 1 => marks k n ++ [k + n]
theorem marks_len (k : Int) : ∀ n, (marks k n).length = n
  | 0 => rfl
  | n + 1 => by simp [marks, marks_len k n]
theorem marks_get (k : Int) : ∀ (n j : Nat) (h : j < (marks k n).length), (marks k n)[j] = k + j
  | n + 1, j, h => by
    rw [marks_len] at h
    by_cases e : j < n
    · simp only [marks]
      rw [List.getElem_append_left (by rw [marks_len]; exact e)]
      exact marks_get k n j _
    · obtain rfl : j = n := by omega
      simp only [marks]
      rw [List.getElem_append_right (by rw [marks_len]; exact Nat.le_refl _)]
      simp [marks_len]
theorem marks_put {xs : List Int} {k : Int} {j : Nat} (hj : j < xs.length) : (intsV (marks k j ++ xs.drop j)).set j (.int .i64 (k + j)) = intsV (marks k (j + 1) ++ xs.drop (j + 1)) := by
  unfold intsV
  rw [← List.map_set, List.set_append_right _ _ (by rw [marks_len]; exact Nat.le_refl _), marks_len, Nat.sub_self, List.drop_eq_getElem_cons hj, List.set_cons_zero]
  simp [marks]
theorem OwnI.form {w : World} {B : Nat} {v : Value} {xs : List Int} (h : OwnI w B v xs) : ∃ A cap, v = .slice A xs.length cap := by
  rcases h.2 with ⟨rfl, h0⟩ | ⟨g, cap, cur, rfl, hr⟩
  · exact ⟨none, 0, by rw [h0]⟩
  · exact ⟨_, cap, rfl⟩
set_option maxHeartbeats 1000000 in
theorem markInt64S_any (B : Nat) (v : Value) (xs : List Int) (k : Int) (w : World) (hv : OwnI w B v xs) (hl : xs.length ≤ 1048576) (hk : 0 ≤ k ∧ k ≤ 1048576) :
    Calls Try.prog 29 #[v, .int .i64 k] w fun e w' => e = .returned (.int .i64 (k + xs.length)) ∧ OwnI w' B v (marks k xs.length) ∧ w.grownBy w' v.ownBlock := by
  obtain ⟨A, cap, rfl⟩ := hv.form
  have HV := Lib.hid hv
  clear hv
  go_enter Try.func29, Try.ntmps29
  go_wp2
  go_loopw [1, 5] (fun m i wr => ∃ j : Nat, j ≤ xs.length ∧ i = .int .i64 j ∧ m = .int .i64 (k + j) ∧ wr.ownsRow B 2 1 (.slice A xs.length cap) xs.length (intsV (marks k j ++ xs.drop j)) ∧ w.grownBy wr (Value.slice A xs.length cap).ownBlock) (fun m i wr => xs.length - (intOf i).toNat)
  case atStart => exact ⟨0, by omega, rfl, by simp, HV.out, World.grownBy.refl _ _⟩
  case round =>
    obtain ⟨j, hj, rfl, rfl, hown, hgr⟩ := hrel
    by_cases hlt : j < xs.length
    · obtain ⟨g, cap', e, hg, hgl⟩ := hown.form (by omega)
      injection e with e1 e2 e3
      subst e1 e3
      have HP := Lib.hid (marks_put (k := k) hlt)
      have hcd : ∃ u, wr.cell? ⟨g, j, none⟩ = some u := by
        rw [hown.cellAt j (by omega)]
        exact ⟨_, List.getElem?_eq_getElem (by simp [intsV, marks_len]; omega)⟩
      obtain ⟨u, hcd⟩ := hcd
      have hfz := hown.frozenAt j
      have HO := Lib.hid hown
      have HG := Lib.hid hgr
      clear hown hgr
      go_wp2
      go_roundw
      case rel => exact ⟨j + 1, by omega, by go_num, by go_num, by
        have h := (HO.out.stored j (.int .i64 (k + j))).1
        rwa [HP.out] at h, HG.out.trans (HO.out.stored j (.int .i64 (k + j))).2⟩
      case measure => simp [intOf]; omega
    · obtain rfl : j = xs.length := by omega
      rw [List.drop_length, List.append_nil] at hown
      have HO := Lib.hid hown
      have HG := Lib.hid hgr
      clear hown hgr
      go_wp2
      go_ret
      exact ⟨rfl, by unfold OwnI; rw [marks_len]; exact HO.out, HG.out⟩
set_option maxRecDepth 100000 in
theorem heldInt64S_any (B : Nat) (v : Value) (n : Nat) (k : Int) (w : World) (hv : OwnI w B v (marks k n)) (hl : n ≤ 1048576) (hk : 0 ≤ k ∧ k ≤ 1048576) :
    Calls Try.prog 30 #[v, .int .i64 k] w fun e w' => e = .returned (.int .i64 (k + n)) ∧ w = w' := by
  obtain ⟨A, cap, rfl⟩ := hv.form
  rw [marks_len] at *
  have HV := Lib.hid (RowW.of_ownI hv)
  clear hv
  go_enter Try.func30, Try.ntmps30
  go_wp2
  go_loop [1, 5] (fun m i => ∃ j : Nat, j ≤ n ∧ i = .int .i64 j ∧ m = .int .i64 (k + j)) (fun m i => n - (intOf i).toNat)
  case atStart => exact ⟨0, by omega, rfl, by simp⟩
  case round =>
    obtain ⟨j, hj, rfl, rfl⟩ := hrel
    by_cases hlt : j < n
    · obtain ⟨b, off, rfl, -, hc⟩ := RowW.cell HV.out (j := j) (by rw [marks_len]; exact hlt)
      rw [show (marks k n).getD j 0 = k + j by rw [List.getD_eq_getElem?_getD, List.getElem?_eq_getElem (by rw [marks_len]; exact hlt), marks_get]; rfl] at hc
      have z1 : 0 ≤ k + (j : Int) ∧ k + (j : Int) ≤ 3000000 := by omega
      obtain ⟨z, hz⟩ : ∃ z : Int, k + (j : Int) = z := ⟨_, rfl⟩
      rw [hz] at hc z1 ⊢
      have HZ := Lib.hid hz
      clear hz
      obtain ⟨z2, z3⟩ := z1
      go_wp2
      go_round
      case rel => exact ⟨j + 1, by omega, by go_num, by have := HZ.out; rw [show k + ((j + 1 : Nat) : Int) = z + 1 by omega]⟩
      case measure => simp [intOf]; omega
    · obtain rfl : j = n := by omega
      go_wp2
      go_ret
      exact ⟨rfl, rfl⟩
theorem OwnI.below {w w' : World} {B : Nat} {v : Value} {xs : List Int} (h : OwnI w B v xs) (hb : Below w.heap.size w w') : OwnI w' B v xs := own_below h hb
theorem OwnI.drewN {w : World} {B : Nat} {v : Value} {xs : List Int} (h : OwnI w B v xs) (n : Nat) : OwnI (w.drewN n) B v xs := h
/-- A row below what was made later stays when that is marked. -/
theorem OwnI.apart {w w' : World} {B B' : Nat} {v v' : Value} {xs ys : List Int} (h : OwnI w B v xs) (hB : ∀ k, v.ownBlock = some k → k < B') (h' : OwnI w B' v' ys) (hg : w.grownBy w' v'.ownBlock) : OwnI w' B v xs := by
  refine h.kept hg ?_
  cases e : v.ownBlock with
  | none => exact Or.inl rfl
  | some k =>
    refine Or.inr fun e2 => ?_
    have := hB k e
    have := (h'.lt k e2.symm).1
    omega
/-- A row that was made later stays when one below it is marked. -/
theorem OwnI.apart2 {w w' : World} {B : Nat} {v v' : Value} {xs : List Int} (h : OwnI w B v xs) (hB : ∀ k, v'.ownBlock = some k → k < B) (hg : w.grownBy w' v'.ownBlock) : OwnI w' B v xs := by
  refine h.kept hg ?_
  cases e : v.ownBlock with
  | none => exact Or.inl rfl
  | some k =>
    refine Or.inr fun e2 => ?_
    have := hB k e2.symm
    have := (h.lt k e).1
    omega
theorem toInt64S_ownI (v : Value) (xs : List Int) (w : World) (hv : RowW .i64 w v xs) (hl : xs.length ≤ 1048576) :
    Calls Try.prog 26 #[v] w fun e w' => ∃ u, e = .returned u ∧ OwnI w' w.heap.size u xs ∧ Row .i64 w' u xs ∧ Below w.heap.size w w' :=
  (toInt64S_own v xs w hv hl).mono fun _ _ ⟨g, e, h, hb⟩ => ⟨_, e, h, Row.of_own h, hb⟩
end Go.Proofs.Ytnlkikdgffaeeaa
