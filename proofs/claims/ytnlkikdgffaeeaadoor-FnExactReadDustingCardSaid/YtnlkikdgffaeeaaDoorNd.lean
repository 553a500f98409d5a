/-
  Plain mathematics of texts that are divided at a byte, and of lists of numbers that are read. Conditions: those that each theorem states.
-/
import Derived.Test.YtnlkikdgffaeeaaDoorNa
import Derived.Lib.Split
import Derived.Lib.IndexLaws
import Derived.Lib.IndexBytes
namespace Go.Proofs.YtnlkikdgffaeeaaDoor
set_option linter.unusedVariables false
set_option linter.unusedSimpArgs false

/-- The pieces of a text between bytes. -/
def splitL (b : UInt8) : List UInt8 → List (List UInt8)
  | [] => [[]]
  | c :: r => if c = b then [] :: splitL b r else match splitL b r with
    | [] => [[c]]
    | p :: ps => (c :: p) :: ps
theorem splitL_ne (b : UInt8) : ∀ l, splitL b l ≠ []
  | [] => by simp [splitL]
  | c :: r => by
    simp only [splitL]
    split
    · simp
    · split <;> simp
theorem splitL_miss (b : UInt8) : ∀ l : List UInt8, (∀ k : Nat, l[k]? ≠ some b) → splitL b l = [l]
  | [], _ => rfl
  | c :: r, h => by
    have hc : c ≠ b := fun e => h 0 (by simp [e])
    have ih := splitL_miss b r (fun k => by have := h (k + 1); simpa using this)
    simp only [splitL, if_neg hc, ih]
theorem splitL_hit (b : UInt8) : ∀ (m : Nat) (l : List UInt8), (∀ k : Nat, k < m → l[k]? ≠ some b) → l[m]? = some b → splitL b l = l.take m :: splitL b (l.drop (m + 1))
  | m, [], _, h => by simp at h
  | 0, c :: r, _, h => by
    have hc : c = b := by simpa using h
    simp only [splitL, if_pos hc]
    rfl
  | m + 1, c :: r, hn, h => by
    have hc : c ≠ b := fun e => hn 0 (by omega) (by simp [e])
    have ih := splitL_hit b m r (fun k hk => by have := hn (k + 1) (by omega); simpa using this) (by simpa using h)
    simp only [splitL, if_neg hc, ih, List.take_succ_cons, List.drop_succ_cons]
theorem splitL_len (b : UInt8) : ∀ l : List UInt8, (splitL b l).length ≤ l.length + 1
  | [] => by simp [splitL]
  | c :: r => by
    have ih := splitL_len b r
    simp only [splitL]
    split
    · simp only [List.length_cons]; omega
    · split
      · simp
      · rename_i e; rw [e] at ih; simp only [List.length_cons] at ih ⊢; omega
theorem splitL_mem (b : UInt8) : ∀ (l p : List UInt8), p ∈ splitL b l → p.length ≤ l.length
  | [], p, h => by simp [splitL] at h; simp [h]
  | c :: r, p, h => by
    have ih := splitL_mem b r
    simp only [splitL] at h
    split at h
    · rcases List.mem_cons.1 h with rfl | h
      · simp
      · have := ih p h; simp only [List.length_cons]; omega
    · split at h
      · rename_i e; exact absurd e (splitL_ne b r)
      · rename_i q qs e
        rw [e] at ih
        rcases List.mem_cons.1 h with rfl | h
        · have := ih q (by simp); simp only [List.length_cons]; omega
        · have := ih p (List.mem_cons_of_mem _ h); simp only [List.length_cons]; omega
/-- The library's cutting, at a separator of one byte: all pieces, if they are no more than it may make. -/
theorem splitK_all (b : UInt8) : ∀ (k : Nat) (l : List UInt8), (splitL b l).length ≤ k + 1 → Lib.splitK [b] 0 k l = splitL b l
  | 0, l, h => by
    rcases Int.lt_or_le (Lib.indexByte l b) 0 with hi | hi
    · have e : Lib.indexByte l b = -1 := by have := Lib.indexByte_ge l b; omega
      rw [splitL_miss b l (Lib.indexByte_none e)]; rfl
    · obtain ⟨i, e⟩ : ∃ i : Nat, Lib.indexByte l b = i := ⟨(Lib.indexByte l b).toNat, by omega⟩
      obtain ⟨h1, h2⟩ := Lib.indexByte_some e
      rw [splitL_hit b i l h2 h1] at h
      have := List.length_pos_iff.2 (splitL_ne b (l.drop (i + 1)))
      simp only [List.length_cons] at h; omega
  | k + 1, l, h => by
    rcases Int.lt_or_le (Lib.indexByte l b) 0 with hi | hi
    · have e : Lib.indexByte l b = -1 := by have := Lib.indexByte_ge l b; omega
      rw [splitL_miss b l (Lib.indexByte_none e)]
      simp only [Lib.splitK, Lib.index_one, e]; rfl
    · obtain ⟨i, e⟩ : ∃ i : Nat, Lib.indexByte l b = i := ⟨(Lib.indexByte l b).toNat, by omega⟩
      obtain ⟨h1, h2⟩ := Lib.indexByte_some e
      rw [splitL_hit b i l h2 h1] at h ⊢
      have ih := splitK_all b k (l.drop (i + 1)) (by simp only [List.length_cons] at h; omega)
      simp only [Lib.splitK, Lib.index_one, e]
      rw [if_neg (by simp)]
      simp only [Int.toNat_natCast, Nat.add_zero, List.length_cons, List.length_nil, Nat.zero_add]
      rw [ih]
/-- .. and more than that are told by how many it makes. -/
theorem splitK_more (b : UInt8) : ∀ (k : Nat) (l : List UInt8), k + 1 < (splitL b l).length → (Lib.splitK [b] 0 k l).length = k + 1
  | 0, l, h => rfl
  | k + 1, l, h => by
    rcases Int.lt_or_le (Lib.indexByte l b) 0 with hi | hi
    · have e : Lib.indexByte l b = -1 := by have := Lib.indexByte_ge l b; omega
      rw [splitL_miss b l (Lib.indexByte_none e)] at h
      simp at h
    · obtain ⟨i, e⟩ : ∃ i : Nat, Lib.indexByte l b = i := ⟨(Lib.indexByte l b).toNat, by omega⟩
      obtain ⟨h1, h2⟩ := Lib.indexByte_some e
      rw [splitL_hit b i l h2 h1] at h
      have ih := splitK_more b k (l.drop (i + 1)) (by simp only [List.length_cons] at h; omega)
      simp only [Lib.splitK, Lib.index_one, e]
      rw [if_neg (by simp)]
      simp only [Int.toNat_natCast, List.length_cons, List.length_nil, Nat.zero_add, ih]
/-- A number of a list. -/
def itemB (p : List UInt8) : Bool := numB p && (decide (-1000000000000 ≤ numV p) && decide (numV p ≤ 1000000000000))
/-- The list that a text is the text of. -/
def listB (l : List UInt8) : Bool := l == [45] || (decide ((splitL 44 l).length ≤ 64) && (splitL 44 l).all itemB)
def listV (l : List UInt8) : List Int := if l = [45] then [] else if listB l then (splitL 44 l).map numV else []
theorem listV_dash : listV [45] = [] ∧ listB [45] = true := ⟨rfl, rfl⟩
theorem listB_of {l : List UInt8} (h : l ≠ [45]) : listB l = (decide ((splitL 44 l).length ≤ 64) && (splitL 44 l).all itemB) := by
  unfold listB
  rw [beq_false_of_ne h, Bool.false_or]
theorem list_long {l : List UInt8} (h : l ≠ [45]) (h2 : 64 < (splitL 44 l).length) : listV l = [] ∧ listB l = false := by
  have e : listB l = false := by rw [listB_of h, decide_eq_false (by omega), Bool.false_and]
  unfold listV
  rw [if_neg h, e]
  exact ⟨rfl, rfl⟩
theorem list_bad {l : List UInt8} (h : l ≠ [45]) {k : Nat} (hk : k < (splitL 44 l).length) (h2 : itemB (splitL 44 l)[k] = false) : listV l = [] ∧ listB l = false := by
  have e : listB l = false := by
    rw [listB_of h, Bool.and_eq_false_iff]
    refine Or.inr ?_
    rw [Bool.eq_false_iff, Ne, List.all_eq_true]
    intro ha
    rw [ha _ (List.getElem_mem hk)] at h2
    cases h2
  unfold listV
  rw [if_neg h, e]
  exact ⟨rfl, rfl⟩
theorem list_good {l : List UInt8} (h : l ≠ [45]) (h1 : (splitL 44 l).length ≤ 64) (h2 : (splitL 44 l).all itemB = true) : listV l = (splitL 44 l).map numV ∧ listB l = true := by
  have e : listB l = true := by rw [listB_of h, decide_eq_true h1, h2]; rfl
  unfold listV
  rw [if_neg h, e]
  exact ⟨rfl, rfl⟩
theorem numV_bd (p : List UInt8) : -1000000000000000000 < numV p ∧ numV p < 1000000000000000000 := by
  unfold numV
  cases h : numOf p with
  | none => simp
  | some v => exact (num_parse h).2.2
theorem listV_bd {l : List UInt8} : ∀ y ∈ listV l, -1000000000000 ≤ y ∧ y ≤ 1000000000000 := by
  intro y hy
  unfold listV at hy
  split at hy
  · cases hy
  · split at hy
    · rename_i h hb
      rw [listB_of h, Bool.and_eq_true] at hb
      obtain ⟨p, hp, rfl⟩ := List.mem_map.1 hy
      have := (List.all_eq_true.1 hb.2) p hp
      unfold itemB at this
      simp only [Bool.and_eq_true, decide_eq_true_eq] at this
      exact this.2
    · cases hy
theorem listV_len (l : List UInt8) : (listV l).length ≤ 64 := by
  unfold listV
  split
  · simp
  · split
    · rename_i h hb
      rw [listB_of h, Bool.and_eq_true, decide_eq_true_eq] at hb
      rw [List.length_map]; exact hb.1
    · simp
end Go.Proofs.YtnlkikdgffaeeaaDoor
