/-
  A search in breadth finds the distances: pure. Conditions: those that each theorem states.
-/
import Derived.Test.YtjooebiiceillaaUh
namespace Go.Proofs.Ytjooebiiceillaa
set_option linter.unusedVariables false

theorem getD_snoc (l : List Int) (x : Int) (p : Nat) : (l ++ [x]).getD p 0 = if p < l.length then l.getD p 0 else if p = l.length then x else 0 := by
  by_cases h : p < l.length
  · rw [if_pos h]; simp [List.getD, List.getElem?_append, h]
  · rw [if_neg h]
    by_cases e : p = l.length
    · rw [if_pos e]; subst e; simp [List.getD]
    · rw [if_neg e]
      have : ¬ p < (l ++ [x]).length := by simp; omega
      simp only [List.getD, List.getElem?_eq_none (Nat.not_lt.1 this)]
      rfl
/-- A search in breadth: D the levels so far, rw the junctions in the order found, i of them done. -/
structure Brd (E : List (Int × Int)) (to : Int) (J : Nat) (D : Int → Int) (rw_ : List Int) (i : Nat) : Prop where
  ge : ∀ j, -1 ≤ D j
  zero : D to = 0
  mem : ∀ j, 0 ≤ D j → ∃ p, p < rw_.length ∧ rw_.getD p 0 = j
  inJ : ∀ p, p < rw_.length → 0 ≤ rw_.getD p 0 ∧ rw_.getD p 0 < (J : Int) ∧ 0 ≤ D (rw_.getD p 0)
  num : cnt D J = rw_.length
  lvl : ∀ p, p < rw_.length → D (rw_.getD p 0) ≤ (p : Int)
  mono : ∀ p q, p ≤ q → q < rw_.length → D (rw_.getD p 0) ≤ D (rw_.getD q 0)
  top : i < rw_.length → ∀ q, q < rw_.length → D (rw_.getD q 0) ≤ D (rw_.getD i 0) + 1
  done : ∀ p, p < i → p < rw_.length → ∀ y, adj E (rw_.getD p 0) y → 0 ≤ D y ∧ D y ≤ D (rw_.getD p 0) + 1
  from_ : ∀ j, j ≠ to → 0 ≤ D j → ∃ x, adj E x j ∧ 0 ≤ D x ∧ D j = D x + 1
theorem Brd.start {E : List (Int × Int)} {to : Int} {J : Nat} (ht : 0 ≤ to ∧ to < (J : Int)) : Brd E to J (fun j => if j = to then 0 else -1) [to] 0 where
  ge j := by split <;> omega
  zero := by simp
  mem j h := by
    try simp only at h
    split at h
    · rename_i e; exact ⟨0, by simp, by simp [e]⟩
    · omega
  inJ p hp := by
    have : p = 0 := by simpa using hp
    subst this
    simp
    exact ht
  num := by
    have h0 : cnt (fun _ : Int => (-1 : Int)) J = 0 := by
      have : ∀ n : Nat, cnt (fun _ : Int => (-1 : Int)) n = 0 := by
        intro n
        induction n with
        | zero => rfl
        | succ n ih => rw [cnt, ih]; simp
      exact this J
    have := cnt_put (D := fun _ : Int => (-1 : Int)) (x := to) (v := 0) (by omega) ht.1 (by omega) J ht.2
    rw [h0] at this
    exact this
  lvl p hp := by
    have : p = 0 := by simpa using hp
    subst this
    simp
  mono p q h1 h2 := by
    have : q = 0 := by simpa using h2
    subst this
    have : p = 0 := by omega
    subst this
    exact Int.le_refl _
  top _ q hq := by
    have : q = 0 := by simpa using hq
    subst this
    omega
  done p hp := absurd hp (by omega)
  from_ j hj h := by simp only [if_neg hj] at h; omega
theorem Brd.le {E : List (Int × Int)} {to : Int} {J : Nat} {D : Int → Int} {rw_ : List Int} {i : Nat} (h : Brd E to J D rw_ i) : rw_.length ≤ J := by
  have := cnt_le D J
  have := h.num
  omega
theorem Brd.lt {E : List (Int × Int)} {to : Int} {J : Nat} {D : Int → Int} {rw_ : List Int} {i : Nat} (h : Brd E to J D rw_ i) (j : Int) : D j < (J : Int) := by
  have h1 := h.le
  by_cases c : 0 ≤ D j
  · obtain ⟨p, hp, e⟩ := h.mem j c
    have := h.lvl p hp
    rw [e] at this
    omega
  · omega
/-- A new one is found beside the i-th. -/
theorem Brd.found {E : List (Int × Int)} {to : Int} {J : Nat} {D : Int → Int} {rw_ : List Int} {i : Nat} (h : Brd E to J D rw_ i) (hi : i < rw_.length) {y : Int} (hy : D y < 0) (h0 : 0 ≤ y ∧ y < (J : Int)) (ha : adj E (rw_.getD i 0) y) : Brd E to J (fun j => if j = y then D (rw_.getD i 0) + 1 else D j) (rw_ ++ [y]) i := by
  have hin := h.inJ i hi
  have hold : ∀ j, 0 ≤ D j → (if j = y then D (rw_.getD i 0) + 1 else D j) = D j := fun j hj => by
    by_cases e : j = y
    · subst e; omega
    · rw [if_neg e]
  have hrow : ∀ p, p < rw_.length → (rw_ ++ [y]).getD p 0 = rw_.getD p 0 := fun p hp => by rw [getD_snoc, if_pos hp]
  have hlast : (rw_ ++ [y]).getD rw_.length 0 = y := by rw [getD_snoc, if_neg (Nat.lt_irrefl _), if_pos rfl]
  have hlen : (rw_ ++ [y]).length = rw_.length + 1 := by simp
  have hD : ∀ p, p < rw_.length → (if (rw_ ++ [y]).getD p 0 = y then D (rw_.getD i 0) + 1 else D ((rw_ ++ [y]).getD p 0)) = D (rw_.getD p 0) := fun p hp => by
    rw [hrow p hp]; exact hold _ (h.inJ p hp).2.2
  constructor
  · intro j
    have := h.ge j
    try simp only
    split <;> omega
  · show (if to = y then D (rw_.getD i 0) + 1 else D to) = 0
    rw [hold to (by rw [h.zero]; omega), h.zero]
  · intro j hj
    try simp only at hj
    by_cases e : j = y
    · exact ⟨rw_.length, by rw [hlen]; omega, by rw [hlast, e]⟩
    · rw [if_neg e] at hj
      obtain ⟨p, hp, e2⟩ := h.mem j hj
      exact ⟨p, by rw [hlen]; omega, by rw [hrow p hp, e2]⟩
  · intro p hp
    rw [hlen] at hp
    by_cases hp2 : p < rw_.length
    · have := h.inJ p hp2
      have h2 := hD p hp2
      rw [hrow p hp2] at h2 ⊢
      refine ⟨this.1, this.2.1, ?_⟩
      show 0 ≤ (if rw_.getD p 0 = y then D (rw_.getD i 0) + 1 else D (rw_.getD p 0))
      rw [h2]; exact this.2.2
    · obtain rfl : p = rw_.length := by omega
      rw [hlast]
      refine ⟨h0.1, h0.2, ?_⟩
      show 0 ≤ (if y = y then D (rw_.getD i 0) + 1 else D y)
      rw [if_pos rfl]; omega
  · rw [cnt_put hy h0.1 (by omega) J h0.2, h.num, hlen]
  · intro p hp
    rw [hlen] at hp
    show (if (rw_ ++ [y]).getD p 0 = y then D (rw_.getD i 0) + 1 else D ((rw_ ++ [y]).getD p 0)) ≤ (p : Int)
    by_cases hp2 : p < rw_.length
    · rw [hD p hp2]; exact h.lvl p hp2
    · obtain rfl : p = rw_.length := by omega
      rw [hlast, if_pos rfl]
      have := h.lvl i hi
      omega
  · intro p q hpq hq
    rw [hlen] at hq
    show (if (rw_ ++ [y]).getD p 0 = y then D (rw_.getD i 0) + 1 else D ((rw_ ++ [y]).getD p 0)) ≤ (if (rw_ ++ [y]).getD q 0 = y then D (rw_.getD i 0) + 1 else D ((rw_ ++ [y]).getD q 0))
    by_cases hq2 : q < rw_.length
    · rw [hD p (by omega), hD q hq2]; exact h.mono p q hpq hq2
    · obtain rfl : q = rw_.length := by omega
      by_cases hp2 : p < rw_.length
      · rw [hD p hp2, hlast, if_pos rfl]; exact h.top hi p hp2
      · obtain rfl : p = rw_.length := by omega
        exact Int.le_refl _
  · intro _ q hq
    rw [hlen] at hq
    show (if (rw_ ++ [y]).getD q 0 = y then D (rw_.getD i 0) + 1 else D ((rw_ ++ [y]).getD q 0)) ≤ (if (rw_ ++ [y]).getD i 0 = y then D (rw_.getD i 0) + 1 else D ((rw_ ++ [y]).getD i 0)) + 1
    rw [hD i hi]
    by_cases hq2 : q < rw_.length
    · rw [hD q hq2]; exact h.top hi q hq2
    · obtain rfl : q = rw_.length := by omega
      rw [hlast, if_pos rfl]; exact Int.le_refl _
  · intro p hp hpl z hz
    have hp2 : p < rw_.length := by omega
    rw [hrow p hp2] at hz
    have := h.done p hp hp2 z hz
    show 0 ≤ (if z = y then D (rw_.getD i 0) + 1 else D z) ∧ (if z = y then D (rw_.getD i 0) + 1 else D z) ≤ (if (rw_ ++ [y]).getD p 0 = y then D (rw_.getD i 0) + 1 else D ((rw_ ++ [y]).getD p 0)) + 1
    rw [hD p hp2, hold z this.1]
    exact this
  · intro j hj hj0
    try simp only at hj0
    show ∃ x, adj E x j ∧ 0 ≤ (if x = y then D (rw_.getD i 0) + 1 else D x) ∧ (if j = y then D (rw_.getD i 0) + 1 else D j) = (if x = y then D (rw_.getD i 0) + 1 else D x) + 1
    by_cases e : j = y
    · subst e
      refine ⟨rw_.getD i 0, ha, ?_, ?_⟩
      · rw [hold _ hin.2.2]; exact hin.2.2
      · rw [if_pos rfl, hold _ hin.2.2]
    · rw [if_neg e] at hj0
      obtain ⟨x, hx, h1, h2⟩ := h.from_ j hj hj0
      refine ⟨x, hx, ?_, ?_⟩
      · rw [hold x h1]; exact h1
      · rw [if_neg e, hold x h1]; exact h2
/-- One beside the i-th that was known. -/
theorem Brd.known {E : List (Int × Int)} {to : Int} {J : Nat} {D : Int → Int} {rw_ : List Int} {i : Nat} (h : Brd E to J D rw_ i) (hi : i < rw_.length) {y : Int} (hy : 0 ≤ D y) : D y ≤ D (rw_.getD i 0) + 1 := by
  obtain ⟨q, hq, e⟩ := h.mem y hy
  have := h.top hi q hq
  rwa [e] at this
/-- The i-th is done. -/
theorem Brd.next {E : List (Int × Int)} {to : Int} {J : Nat} {D : Int → Int} {rw_ : List Int} {i : Nat} (h : Brd E to J D rw_ i) (hi : i < rw_.length) (hd : ∀ y, adj E (rw_.getD i 0) y → 0 ≤ D y ∧ D y ≤ D (rw_.getD i 0) + 1) : Brd E to J D rw_ (i + 1) where
  ge := h.ge
  zero := h.zero
  mem := h.mem
  inJ := h.inJ
  num := h.num
  lvl := h.lvl
  mono := h.mono
  top hi2 q hq := by
    have h1 := h.top hi q hq
    have h2 := h.mono i (i + 1) (by omega) hi2
    omega
  done p hp hpl := by
    by_cases e : p = i
    · subst e; exact hd
    · exact h.done p (by omega) hpl
  from_ := h.from_
/-- All are done: the distances. -/
theorem Brd.dist {E : List (Int × Int)} {to : Int} {J : Nat} {D : Int → Int} {rw_ : List Int} (h : Brd E to J D rw_ rw_.length) : Dist E to D where
  ge := h.ge
  zero := h.zero
  near x y ha hx := by
    obtain ⟨p, hp, e⟩ := h.mem x hx
    have := h.done p hp hp y (by rw [e]; exact ha)
    rwa [e] at this
  from_ := h.from_
/-- 16 stands for 'not found'. -/
def encD (d : Int) : Int := if d < 0 then 16 else d
theorem encD_16 {d : Int} (h : d < 16) : encD d = 16 ↔ d < 0 := by
  unfold encD
  split
  · constructor <;> intro _ <;> first | assumption | rfl
  · constructor <;> intro _ <;> omega
theorem encD_of {d : Int} (h : 0 ≤ d) : encD d = d := by unfold encD; rw [if_neg (by omega)]
theorem encD_neg {d : Int} (h : d < 0) : encD d = 16 := by unfold encD; rw [if_pos h]
end Go.Proofs.Ytjooebiiceillaa
