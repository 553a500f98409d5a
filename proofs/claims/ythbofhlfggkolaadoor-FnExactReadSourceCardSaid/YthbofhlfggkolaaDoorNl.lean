/-
  Plain mathematics of texts of airways that are read. Conditions: those that each theorem states.
-/
import Derived.Test.YthbofhlfggkolaaDoorNd
import Derived.Test.YthbofhlfggkolaaDoorDb
namespace Go.Proofs.YthbofhlfggkolaaDoor
open Go.RowKit
set_option linter.unusedVariables false
set_option linter.unusedSimpArgs false

theorem magOf_blank {l : List UInt8} (h : (32 : UInt8) ∈ l) : magOf l = none := by
  unfold magOf
  rw [if_neg]
  rintro ⟨_, _, ha⟩
  exact absurd (List.all_eq_true.1 ha 32 h) (by decide)
theorem numB_blank {p : List UInt8} (h : (32 : UInt8) ∈ p) : numB p = false := by
  cases p with
  | nil => simp at h
  | cons c r =>
    unfold numB numOf
    by_cases hc : c = 45
    · have hr : (32 : UInt8) ∈ r := by
        rcases List.mem_cons.1 h with e | h
        · rw [← e] at hc; exact absurd hc (by decide)
        · exact h
      simp only [if_pos hc]
      split
      · rfl
      · rw [magOf_blank hr]; rfl
    · simp only [if_neg hc]
      split
      · rfl
      · rw [magOf_blank h]; rfl
theorem mem_pieces (b x : UInt8) (hx : x ≠ b) : ∀ l : List UInt8, x ∈ l → ∃ p, p ∈ splitL b l ∧ x ∈ p
  | [], h => by simp at h
  | c :: r, h => by
    simp only [splitL]
    split
    · rename_i hc
      have hr : x ∈ r := by
        rcases List.mem_cons.1 h with e | h
        · exact absurd (e.trans hc) hx
        · exact h
      obtain ⟨p, hp, hxp⟩ := mem_pieces b x hx r hr
      exact ⟨p, List.mem_cons_of_mem _ hp, hxp⟩
    · split
      · rename_i e; exact absurd e (splitL_ne b r)
      · rename_i q qs e
        rcases List.mem_cons.1 h with h | h
        · exact ⟨c :: q, by simp, by simp [h]⟩
        · obtain ⟨p, hp, hxp⟩ := mem_pieces b x hx r h
          rw [e] at hp
          rcases List.mem_cons.1 hp with rfl | hp
          · exact ⟨c :: p, by simp, by simp [hxp]⟩
          · exact ⟨p, List.mem_cons_of_mem _ hp, hxp⟩
theorem listB_blank {l : List UInt8} (h : (32 : UInt8) ∈ l) : listB l = false := by
  have h45 : l ≠ [45] := by rintro rfl; revert h; decide
  obtain ⟨p, hp, hb⟩ := mem_pieces 44 32 (by decide) l h
  rw [listB_of h45, Bool.and_eq_false_iff]
  refine Or.inr ?_
  rw [Bool.eq_false_iff, Ne, List.all_eq_true]
  intro ha
  have := ha p hp
  unfold itemB at this
  rw [numB_blank hb, Bool.false_and] at this
  cases this
theorem cut_cases (d : List UInt8) : (∃ a b, splitL 32 d = [a, b] ∧ Lib.cut d [32] = (a, b, true)) ∨ ((splitL 32 d).length ≠ 2 ∧ listB (Lib.cut d [32]).2.1 = false) := by
  rcases Int.lt_or_le (Lib.indexByte d 32) 0 with hi | hi
  · have e : Lib.indexByte d 32 = -1 := by have := Lib.indexByte_ge d 32; omega
    refine .inr ⟨by rw [splitL_miss 32 d (Lib.indexByte_none e)]; simp, ?_⟩
    unfold Lib.cut
    rw [Lib.index_one, e, if_neg (by decide)]
    exact (by decide : listB [] = false)
  · obtain ⟨i, e⟩ : ∃ i : Nat, Lib.indexByte d 32 = i := ⟨(Lib.indexByte d 32).toNat, by omega⟩
    obtain ⟨h1, h2⟩ := Lib.indexByte_some e
    have hc : Lib.cut d [32] = (d.take i, d.drop (i + 1), true) := by
      unfold Lib.cut
      rw [Lib.index_one, e, if_pos (by omega)]
      rfl
    rw [splitL_hit 32 i d h2 h1, hc]
    rcases Int.lt_or_le (Lib.indexByte (d.drop (i + 1)) 32) 0 with hj | hj
    · have e2 : Lib.indexByte (d.drop (i + 1)) 32 = -1 := by have := Lib.indexByte_ge (d.drop (i + 1)) 32; omega
      exact .inl ⟨_, _, by rw [splitL_miss 32 _ (Lib.indexByte_none e2)], rfl⟩
    · obtain ⟨j, e2⟩ : ∃ j : Nat, Lib.indexByte (d.drop (i + 1)) 32 = j := ⟨(Lib.indexByte (d.drop (i + 1)) 32).toNat, by omega⟩
      obtain ⟨h3, h4⟩ := Lib.indexByte_some e2
      refine .inr ⟨?_, listB_blank (List.mem_of_getElem? h3)⟩
      rw [splitL_hit 32 j _ h4 h3]
      have := List.length_pos_iff.2 (splitL_ne 32 ((d.drop (i + 1)).drop (j + 1)))
      simp only [List.length_cons]
      omega
theorem cut_len (d : List UInt8) : (Lib.cut d [32]).1.length ≤ d.length ∧ (Lib.cut d [32]).2.1.length ≤ d.length := by
  unfold Lib.cut
  split
  · exact ⟨by simp; omega, by simp⟩
  · exact ⟨Nat.le_refl _, by simp⟩
/-- The two parts of a text of an airway: its Id, its numbers. -/
def cutA (d : List UInt8) : ByteArray := ⟨(Lib.cut d [32]).1.toArray⟩
def cutN (d : List UInt8) : List UInt8 := (Lib.cut d [32]).2.1
/-- Whether a text is that of an airway, and its Id and its numbers (empty, 0 if it is not). -/
def awRd (d : List UInt8) : Bool := listB (cutN d) && ((listV (cutN d)).length == 6 && awOk (cutA d) ((listV (cutN d)).getD 0 0) ((listV (cutN d)).getD 1 0) ((listV (cutN d)).getD 2 0) ((listV (cutN d)).getD 3 0) ((listV (cutN d)).getD 4 0) ((listV (cutN d)).getD 5 0))
def awS (d : List UInt8) : ByteArray := if awRd d then cutA d else ⟨#[]⟩
def awV (d : List UInt8) (i : Nat) : Int := if awRd d then (listV (cutN d)).getD i 0 else 0
theorem aw_cases (d : List UInt8) : (awRd d = false ∧ awS d = ⟨#[]⟩ ∧ (∀ i, awV d i = 0) ∧ (listB (cutN d) = false ∨ (listB (cutN d) = true ∧ (listV (cutN d)).length ≠ 6) ∨ ∃ f t l se fr sh, listB (cutN d) = true ∧ listV (cutN d) = [f, t, l, se, fr, sh] ∧ awOk (cutA d) f t l se fr sh = false)) ∨
    (∃ f t l se fr sh, listB (cutN d) = true ∧ listV (cutN d) = [f, t, l, se, fr, sh] ∧ awOk (cutA d) f t l se fr sh = true ∧ awRd d = true ∧ awS d = cutA d ∧ awV d 0 = f ∧ awV d 1 = t ∧ awV d 2 = l ∧ awV d 3 = se ∧ awV d 4 = fr ∧ awV d 5 = sh) := by
  have no : awRd d = false → awS d = ⟨#[]⟩ ∧ ∀ i, awV d i = 0 := fun h => ⟨by simp [awS, h], fun i => by simp [awV, h]⟩
  cases hb : listB (cutN d)
  · have h : awRd d = false := by simp [awRd, hb]
    exact .inl ⟨h, (no h).1, (no h).2, .inl rfl⟩
  · by_cases hl : (listV (cutN d)).length = 6
    · obtain ⟨f, t, l, se, fr, sh, hx⟩ : ∃ f t l se fr sh, listV (cutN d) = [f, t, l, se, fr, sh] := by
        match listV (cutN d), hl with
        | [f, t, l, se, fr, sh], _ => exact ⟨f, t, l, se, fr, sh, rfl⟩
      cases ho : awOk (cutA d) f t l se fr sh
      · have h : awRd d = false := by simp [awRd, hb, hx, ho]
        exact .inl ⟨h, (no h).1, (no h).2, .inr (.inr ⟨_, _, _, _, _, _, rfl, hx, ho⟩)⟩
      · have h : awRd d = true := by simp [awRd, hb, hx, ho]
        exact .inr ⟨_, _, _, _, _, _, rfl, hx, ho, h, by simp [awS, h], by simp [awV, h, hx], by simp [awV, h, hx], by simp [awV, h, hx], by simp [awV, h, hx], by simp [awV, h, hx], by simp [awV, h, hx]⟩
    · have h : awRd d = false := by simp [awRd, hb, hl]
      exact .inl ⟨h, (no h).1, (no h).2, .inr (.inl ⟨rfl, hl⟩)⟩
theorem of_bytes {x : ByteArray} {l : List UInt8} (h : x.data.toList = l) : x = ⟨l.toArray⟩ := by subst h; rfl
theorem pieces2 {d : List UInt8} {ps : List ByteArray} (h : ps.map (·.data.toList) = splitL 32 d) : (ps.length ≠ 2 ∧ listB (cutN d) = false) ∨ ∃ y, ps = [cutA d, y] ∧ y.data.toList = cutN d := by
  rcases cut_cases d with ⟨a, b, h1, h2⟩ | ⟨h1, h2⟩
  · rw [h1] at h
    match ps, h with
    | [x, y], h =>
      simp only [List.map_cons, List.map_nil, List.cons.injEq, and_true] at h
      refine .inr ⟨y, ?_, ?_⟩
      · rw [show cutA d = ⟨a.toArray⟩ by rw [cutA, h2], ← of_bytes h.1]
      · rw [h.2, cutN, h2]
  · refine .inl ⟨?_, h2⟩
    rw [← h, List.length_map] at h1
    exact h1
theorem cutA_size (d : List UInt8) : (cutA d).size ≤ d.length := by
  have := (cut_len d).1
  simpa [cutA, ByteArray.size] using this
theorem aw_same {s s' : ByteArray} {f t l se fr sh f' t' l' se' fr' sh' : Int} {b b' : Bool} (e : s = s') (e0 : f = f') (e1 : t = t') (e2 : l = l') (e3 : se = se') (e4 : fr = fr') (e5 : sh = sh') (e6 : b = b') : Ending.returned (.tuple #[.agg #[.string s, .int .i64 f, .int .i64 t, .int .i64 l, .int .i64 se, .int .i64 fr, .int .i64 sh], .bool b]) = .returned (.tuple #[.agg #[.string s', .int .i64 f', .int .i64 t', .int .i64 l', .int .i64 se', .int .i64 fr', .int .i64 sh'], .bool b']) := by subst e e0 e1 e2 e3 e4 e5 e6; rfl
theorem aw_same1 {s s' : ByteArray} {f t l se fr sh f' t' l' se' fr' sh' : Int} (e : s = s') (e0 : f = f') (e1 : t = t') (e2 : l = l') (e3 : se = se') (e4 : fr = fr') (e5 : sh = sh') : Ending.returned (.agg #[.string s, .int .i64 f, .int .i64 t, .int .i64 l, .int .i64 se, .int .i64 fr, .int .i64 sh]) = .returned (.agg #[.string s', .int .i64 f', .int .i64 t', .int .i64 l', .int .i64 se', .int .i64 fr', .int .i64 sh']) := by subst e e0 e1 e2 e3 e4 e5; rfl
end Go.Proofs.YthbofhlfggkolaaDoor
