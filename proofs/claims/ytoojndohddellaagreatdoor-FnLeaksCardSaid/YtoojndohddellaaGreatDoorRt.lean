/-
  Texts of lists and of names with numbers, read back: plain mathematics. Conditions: those that each theorem states.
-/
import Derived.Test.YtoojndohddellaaGreatDoorNl
import Derived.Test.YtoojndohddellaaGreatDoorSb
import Derived.Test.YtoojndohddellaaGreatDoorBe
namespace Go.Proofs.YtoojndohddellaaGreatDoor
open Go.RowKit
set_option linter.unusedVariables false
set_option linter.unusedSimpArgs false

theorem index_app {p r : List UInt8} {b : UInt8} (h : b ∉ p) : Lib.indexByte (p ++ b :: r) b = p.length := by
  have hat : (p ++ b :: r)[p.length]? = some b := by rw [List.getElem?_append_right (Nat.le_refl _), Nat.sub_self]; rfl
  have hlt : ∀ k, k < p.length → (p ++ b :: r)[k]? ≠ some b := fun k hk e => by
    rw [List.getElem?_append_left hk] at e
    exact h (List.mem_of_getElem? e)
  have hg := Lib.indexByte_ge (p ++ b :: r) b
  rcases Int.lt_or_le (Lib.indexByte (p ++ b :: r) b) 0 with hi | hi
  · have e : Lib.indexByte (p ++ b :: r) b = -1 := by omega
    exact absurd hat (Lib.indexByte_none e p.length)
  · obtain ⟨i, e⟩ : ∃ i : Nat, Lib.indexByte (p ++ b :: r) b = i := ⟨(Lib.indexByte (p ++ b :: r) b).toNat, by omega⟩
    obtain ⟨h1, h2⟩ := Lib.indexByte_some e
    rw [e]
    rcases Nat.lt_trichotomy i p.length with q | q | q
    · exact absurd h1 (hlt i q)
    · rw [q]
    · exact absurd hat (h2 p.length q)
theorem splitL_app {p r : List UInt8} {b : UInt8} (h : b ∉ p) : splitL b (p ++ b :: r) = p :: splitL b r := by
  rw [splitL_hit b p.length _ (fun k hk e => by rw [List.getElem?_append_left hk] at e; exact h (List.mem_of_getElem? e)) (by rw [List.getElem?_append_right (Nat.le_refl _), Nat.sub_self]; rfl)]
  congr 1
  · simp
  · congr 1
    simp
theorem splitL_none {p : List UInt8} {b : UInt8} (h : b ∉ p) : splitL b p = [p] := splitL_miss b p fun k e => h (List.mem_of_getElem? e)
theorem cut_app {p r : List UInt8} (h : (32 : UInt8) ∉ p) : (Lib.cut (p ++ 32 :: r) [32]).1 = p ∧ (Lib.cut (p ++ 32 :: r) [32]).2.1 = r := by
  unfold Lib.cut
  rw [Lib.index_one, index_app h]
  constructor
  · rw [if_pos (by omega)]; simp
  · rw [if_pos (by omega)]; simp
/-- A decimal form has digits alone behind its sign. -/
theorem itoa_mem {v : Int} {c : UInt8} (h : c ∈ Lib.itoa v) : c = 45 ∨ isDg c = true := by
  unfold Lib.itoa at h
  split at h
  · rcases List.mem_cons.1 h with h | h
    · exact .inl h
    · exact .inr (List.all_eq_true.1 (dec_facts _).2.1 c h)
  · exact .inr (List.all_eq_true.1 (dec_facts _).2.1 c h)
theorem itoa_no {v : Int} (c : UInt8) (h1 : c ≠ 45) (h2 : isDg c = false) : c ∉ Lib.itoa v := fun h => by
  rcases itoa_mem h with h | h
  · exact h1 h
  · rw [h2] at h; cases h
theorem trim_len {v : Int} (h : -1000000000000 ≤ v ∧ v ≤ 1000000000000) : (trimS (Lib.itoa v)).length ≤ 18 := by
  have key : ∀ u : Nat, u ≤ 1000000000000 → (Lib.decDigits u).length ≤ 13 := fun u hu => by
    by_cases h0 : u = 0
    · subst h0; rw [Lib.decDigits_one (by omega)]; simp
    · rw [dec_rev u h0, List.length_reverse]
      exact revD_len 13 u (by omega)
  have one : ∀ l : List UInt8, (trimS l).length ≤ l.length := fun l => by
    cases l with
    | nil => simp [trimS]
    | cons c r => simp only [trimS]; split <;> simp
  unfold Lib.itoa
  split
  · have := key v.natAbs (by omega)
    have := one (45 :: Lib.decDigits v.natAbs)
    simp only [List.length_cons] at this
    omega
  · have := key v.toNat (by omega)
    have := one (Lib.decDigits v.toNat)
    omega
theorem num_back {v : Int} (h : -1000000000000 ≤ v ∧ v ≤ 1000000000000) : numOf (Lib.itoa v) = some v := num_itoa (trim_len h)
theorem item_back {v : Int} (h : -1000000000000 ≤ v ∧ v ≤ 1000000000000) : itemB (Lib.itoa v) = true ∧ numV (Lib.itoa v) = v := by
  have e := num_back h
  have e1 : numV (Lib.itoa v) = v := by unfold numV; rw [e]; rfl
  have e2 : numB (Lib.itoa v) = true := by unfold numB; rw [e]; rfl
  refine ⟨?_, e1⟩
  unfold itemB
  rw [e1, e2]
  simp [h.1, h.2]
theorem split_commas : ∀ xs : List Int, xs ≠ [] → splitL 44 (commas xs) = xs.map Lib.itoa
  | [], h => absurd rfl h
  | [x], _ => splitL_none (itoa_no 44 (by decide) (by decide))
  | x :: y :: r, _ => by
    show splitL 44 (Lib.itoa x ++ 44 :: commas (y :: r)) = _
    rw [splitL_app (itoa_no 44 (by decide) (by decide)), split_commas (y :: r) (by simp)]
    rfl
theorem commas_dash {xs : List Int} (h : xs ≠ []) (hb : ∀ y ∈ xs, -1000000000000 ≤ y ∧ y ≤ 1000000000000) : commas xs ≠ [45] := fun e => by
  have := split_commas xs h
  rw [e] at this
  match xs, h with
  | [x], _ =>
    have e2 : Lib.itoa x = [45] := e
    have e3 := num_back (hb x (by simp))
    rw [e2] at e3
    revert e3
    simp [numOf, magOf]
  | x :: y :: r, _ => simp [splitL] at this
/-- A list of numbers is read back from its text. -/
theorem list_back {xs : List Int} (h0 : xs ≠ []) (hl : xs.length ≤ 64) (hb : ∀ y ∈ xs, -1000000000000 ≤ y ∧ y ≤ 1000000000000) : listB (commas xs) = true ∧ listV (commas xs) = xs := by
  have hs := split_commas xs h0
  have hg := list_good (commas_dash h0 hb) (by rw [hs, List.length_map]; exact hl) (by
    rw [hs, List.all_eq_true]
    intro p hp
    obtain ⟨v, hv, rfl⟩ := List.mem_map.1 hp
    exact (item_back (hb v hv)).1)
  refine ⟨hg.2, ?_⟩
  rw [hg.1, hs, List.map_map]
  conv => rhs; rw [← List.map_id xs]
  exact List.map_congr_left fun v hv => (item_back (hb v hv)).2
theorem okTo_get {s : ByteArray} {k : Nat} : ∀ n, okTo s n = true → k < n → okc (byteAt s k) = true := fun n h hk => by
  cases e : okc (byteAt s k)
  · rw [okTo_false e n hk] at h; cases h
  · rfl
/-- A name has no blank. -/
theorem name_blank {s : ByteArray} (h : isNm s = true) : (32 : UInt8) ∉ s.data.toList := fun hm => by
  simp only [isNm, Bool.and_eq_true, decide_eq_true_eq] at h
  obtain ⟨k, hk, e⟩ := List.mem_iff_getElem.1 hm
  have hks : k < s.size := by simpa using hk
  have h1 := okTo_get s.size h.2 hks
  have h2 : byteAt s k = 32 := by
    unfold byteAt
    rw [List.getD_eq_getElem?_getD, List.getElem?_eq_getElem hk, e]
    rfl
  rw [h2] at h1
  exact absurd h1 (by decide)
theorem named_list (s : ByteArray) (L : List UInt8) : (s ++ ⟨#[32]⟩ ++ ⟨L.toArray⟩ : ByteArray).data.toList = s.data.toList ++ 32 :: L := by simp
theorem cut_named {s : ByteArray} (h : isNm s = true) (L : List UInt8) : cutA (s ++ ⟨#[32]⟩ ++ ⟨L.toArray⟩ : ByteArray).data.toList = s ∧ cutN (s ++ ⟨#[32]⟩ ++ ⟨L.toArray⟩ : ByteArray).data.toList = L := by
  rw [named_list]
  have e := cut_app (r := L) (name_blank h)
  unfold cutA cutN
  rw [e.1, e.2]
  exact ⟨rfl, rfl⟩
end Go.Proofs.YtoojndohddellaaGreatDoor
