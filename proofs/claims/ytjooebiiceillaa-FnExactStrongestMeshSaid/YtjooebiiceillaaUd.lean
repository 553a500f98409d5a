/-
  Contracts of chapter 4: the parts of a mine; the model's and the program's. Conditions: those that each theorem states.
-/
import Derived.Test.YtjooebiiceillaaUc
namespace Go.Proofs.Ytjooebiiceillaa
open Go.RowKit
set_option linter.unusedVariables false
set_option linter.unusedSimpArgs false

/-- The ends of the first k airways, the last one first. -/
def es2 (xs : List Aw) (k : Nat) : List (Int × Int) := ((xs.take k).map (fun a => (a.f, a.t))).reverse
theorem es2_snoc {xs : List Aw} {k : Nat} (h : k < xs.length) : es2 xs (k + 1) = (xs[k].f, xs[k].t) :: es2 xs k := by
  unfold es2
  rw [List.take_succ_eq_append_getElem h, List.map_append, List.reverse_append]
  rfl
def allI (n : Nat) : List Int := ixT (fun (k : Nat) => !(decide ((k : Int) = -1))) n
theorem allI_succ (n : Nat) : allI (n + 1) = allI n ++ [(n : Int)] := by
  unfold allI
  exact ixT_yes (by rw [decide_eq_false (by omega)]; rfl)
theorem allI_len : ∀ n, (allI n).length = n
  | 0 => rfl
  | n + 1 => by rw [allI_succ, List.length_append, allI_len n]; rfl
theorem allI_mem : ∀ n y, y ∈ allI n → 0 ≤ y ∧ y < (n : Int)
  | 0, y, h => by simp [allI, ixT] at h
  | n + 1, y, h => by
    rw [allI_succ, List.mem_append, List.mem_singleton] at h
    rcases h with h | h
    · have := allI_mem n y h; omega
    · omega
theorem allI_ends (xs : List Aw) : ∀ n, n ≤ xs.length → (allI n).map (endsOf xs) = (xs.take n).map (fun a => (a.f, a.t))
  | 0, _ => by simp [allI, ixT]
  | n + 1, h => by
    rw [allI_succ, List.map_append, allI_ends xs n (by omega), List.take_succ_eq_append_getElem (by omega), List.map_append]
    congr 1
    simp [endsOf, List.getElem?_eq_getElem (show n < xs.length by omega)]
theorem labT_all (xs : List Aw) : labT xs (allI xs.length) (allI xs.length).length = labsE (es2 xs xs.length) := by
  unfold labT esOf es2
  rw [List.take_length, allI_ends xs _ (Nat.le_refl _)]
theorem es2_nn {J : Int} {xs : List Aw} (h : mineOk J xs = true) (k : Nat) : ∀ e ∈ es2 xs k, 0 ≤ e.1 ∧ 0 ≤ e.2 := by
  intro e he
  unfold es2 at he
  rw [List.mem_reverse, List.mem_map] at he
  obtain ⟨a, ha, rfl⟩ := he
  obtain ⟨j, hj, rfl⟩ := List.mem_iff_getElem.1 (List.mem_of_mem_take ha)
  have := ends_inU h hj
  exact ⟨this.1.1, this.2.1⟩
/-- What PartsOf returns. -/
def paB (J : Int) (xs : List Aw) : Int := if mineOk J xs then 0 else 1
def paR (J : Int) (xs : List Aw) : List Int := if mineOk J xs then partsL J.toNat (labsE (es2 xs xs.length)) else []
theorem paR_len (J : Int) (xs : List Aw) : (paR J xs).length ≤ 1048576 := by
  unfold paR
  split
  · rename_i h
    have := (mineOk_iff.1 h).1
    rw [partsL_len]; omega
  · simp
theorem ret_vp {v : Value} {b b' : Int} (h : b = b') : Ending.returned (.tuple #[v, .int .i64 b]) = .returned (.tuple #[v, .int .i64 b']) := by rw [h]
theorem own_nilp (w : World) (B : Nat) : OwnI w B (.slice none 0 0) [] := World.ownsRow_nil _ _ _ _
theorem own_lep {w : World} {B B' : Nat} {v : Value} {xs : List Int} (h : OwnI w B v xs) (hb : B' ≤ B) : OwnI w B' v xs := by
  obtain ⟨hl, h⟩ := h
  refine ⟨hl, ?_⟩
  rcases h with h | ⟨g, cap, cur, e, hg, r⟩
  · exact .inl h
  · exact .inr ⟨g, cap, cur, e, Nat.le_trans hb hg, r⟩
end Go.Proofs.Ytjooebiiceillaa
