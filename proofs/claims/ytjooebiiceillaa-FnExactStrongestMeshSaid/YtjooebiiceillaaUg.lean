/-
  Levels of a search from a junction: one pass of the model over the airways finds one level: pure. Conditions: those that each theorem states.
-/
import Derived.Test.YtjooebiiceillaaUa
namespace Go.Proofs.Ytjooebiiceillaa
set_option linter.unusedVariables false

/-- Whether an airway of the list leads from j to a junction at the level s. -/
def any1 (lv : Int → Int) (s : Int) (E : List (Int × Int)) (j : Int) : Bool := E.any (fun e => decide ((e.1 = j ∧ lv e.2 = s) ∨ (e.2 = j ∧ lv e.1 = s)))
/-- What is known behind some airways of the pass s. -/
def part (lv : Int → Int) (s : Int) (E : List (Int × Int)) (j : Int) : Int := if 0 ≤ lv j then lv j else if any1 lv s E j then s + 1 else -1
/-- One airway of the pass. -/
def updA (far : Int → Int) (s a b : Int) : Int → Int := if far a = s ∧ far b < 0 then (fun j => if j = b then s + 1 else far j) else far
def updE (far : Int → Int) (s a b : Int) : Int → Int := updA (updA far s a b) s b a
theorem part_at {lv : Int → Int} {s : Int} (hs : 0 ≤ s) (E : List (Int × Int)) (x : Int) : part lv s E x = s ↔ lv x = s := by
  unfold part
  by_cases h : 0 ≤ lv x
  · rw [if_pos h]
  · rw [if_neg h]
    split
    · constructor <;> intro h2 <;> omega
    · constructor <;> intro h2 <;> omega
theorem part_neg {lv : Int → Int} {s : Int} (hs : 0 ≤ s) (E : List (Int × Int)) (x : Int) : part lv s E x < 0 ↔ lv x < 0 ∧ any1 lv s E x = false := by
  unfold part
  by_cases h : 0 ≤ lv x
  · rw [if_pos h]; constructor <;> intro h2 <;> omega
  · rw [if_neg h]
    cases hA : any1 lv s E x
    · simp; omega
    · simp; omega
theorem any1_snoc (lv : Int → Int) (s : Int) (E : List (Int × Int)) (e : Int × Int) (j : Int) : any1 lv s (E ++ [e]) j = (any1 lv s E j || decide ((e.1 = j ∧ lv e.2 = s) ∨ (e.2 = j ∧ lv e.1 = s))) := by
  simp [any1, List.any_append]
theorem part_snoc {lv : Int → Int} {s : Int} (hs : 0 ≤ s) (E : List (Int × Int)) (a b : Int) (hne : a ≠ b) : updE (part lv s E) s a b = part lv s (E ++ [(a, b)]) := by
  have key : ∀ x y, (part lv s E x = s ∧ part lv s E y < 0) ↔ (lv x = s ∧ lv y < 0 ∧ any1 lv s E y = false) := fun x y => by rw [part_at hs, part_neg hs]
  have h1 : updA (part lv s E) s a b = fun j => if lv a = s ∧ lv b < 0 ∧ j = b then s + 1 else part lv s E j := by
    funext j
    unfold updA
    by_cases h : part lv s E a = s ∧ part lv s E b < 0
    · rw [if_pos h]
      have h' := (key a b).1 h
      by_cases e : j = b
      · rw [if_pos e, if_pos ⟨h'.1, h'.2.1, e⟩]
      · rw [if_neg e, if_neg (fun q => e q.2.2)]
    · rw [if_neg h]
      by_cases q : lv a = s ∧ lv b < 0 ∧ j = b
      · rw [if_pos q]
        obtain ⟨q1, q2, rfl⟩ := q
        have : any1 lv s E j = true := by
          cases hA : any1 lv s E j
          · exact absurd ((key a j).2 ⟨q1, q2, hA⟩) h
          · rfl
        unfold part
        rw [if_neg (by omega), if_pos this]
      · rw [if_neg q]
  funext j
  unfold updE
  rw [h1]
  have hb : (if lv a = s ∧ lv b < 0 ∧ True then s + 1 else part lv s E b) = s ↔ lv b = s := by
    by_cases q : lv a = s ∧ lv b < 0 ∧ True
    · rw [if_pos q]; constructor <;> intro h <;> omega
    · rw [if_neg q]; exact part_at hs E b
  have ha : (if lv a = s ∧ lv b < 0 ∧ a = b then s + 1 else part lv s E a) = part lv s E a := if_neg (fun q => hne q.2.2)
  unfold updA
  simp only [hb, ha]
  have hp : part lv s (E ++ [(a, b)]) j = if 0 ≤ lv j then lv j else if any1 lv s E j = true ∨ (a = j ∧ lv b = s) ∨ (b = j ∧ lv a = s) then s + 1 else -1 := by
    unfold part
    rw [any1_snoc]
    simp
  rw [hp]
  have hq : ∀ x, part lv s E x = if 0 ≤ lv x then lv x else if any1 lv s E x = true then s + 1 else -1 := fun x => rfl
  by_cases c2 : lv b = s ∧ part lv s E a < 0
  · rw [if_pos c2]
    have d := (part_neg hs E a).1 c2.2
    by_cases ej : j = a
    · subst ej
      rw [if_pos rfl, if_neg (by omega), if_pos (Or.inr (Or.inl ⟨rfl, c2.1⟩))]
    · rw [if_neg ej, if_neg (by omega), hq]
      congr 1
      have e1 : ¬ (a = j ∧ lv b = s) := fun q => ej q.1.symm
      have e2 : ¬ (b = j ∧ lv a = s) := fun q => by omega
      simp [e1, e2]
  · rw [if_neg c2]
    by_cases c1 : lv a = s ∧ lv b < 0 ∧ j = b
    · rw [if_pos c1]
      obtain ⟨c1, c3, rfl⟩ := c1
      rw [if_neg (by omega), if_pos (Or.inr (Or.inr ⟨rfl, c1⟩))]
    · rw [if_neg c1, hq]
      by_cases hj : 0 ≤ lv j
      · rw [if_pos hj, if_pos hj]
      · rw [if_neg hj, if_neg hj]
        have e2 : ¬ (b = j ∧ lv a = s) := fun q => c1 ⟨q.2, by rw [q.1]; omega, q.1.symm⟩
        cases hA : any1 lv s E j
        · have e1 : ¬ (a = j ∧ lv b = s) := fun q => c2 ⟨q.2, by rw [q.1]; exact (part_neg hs E j).2 ⟨by omega, hA⟩⟩
          simp [e1, e2]
        · simp
/-- The levels, when s passes are made. -/
def lev (E : List (Int × Int)) (to : Int) : Nat → Int → Int
  | 0 => fun j => if j = to then 0 else -1
  | s + 1 => part (lev E to s) s E
theorem lev_ge (E : List (Int × Int)) (to : Int) : ∀ (s : Nat) (j : Int), -1 ≤ lev E to s j ∧ lev E to s j ≤ s
  | 0, j => by simp only [lev]; split <;> omega
  | s + 1, j => by
    have := lev_ge E to s j
    simp only [lev, part]
    split
    · omega
    · split <;> omega
theorem lev_start (E : List (Int × Int)) (to : Int) (s : Nat) (j : Int) : part (lev E to s) s [] j = lev E to s j := by
  have := lev_ge E to s j
  unfold part any1
  by_cases h : 0 ≤ lev E to s j
  · rw [if_pos h]
  · rw [if_neg h]; simp; omega
end Go.Proofs.Ytjooebiiceillaa
