/-
  Sets of junctions: each leads to a lesser one of its set (the program's), and labels (the model's): pure. Conditions: those that each theorem states.
-/
import Derived.Test.YtjooebiiceillaaBa
namespace Go.Proofs.Ytjooebiiceillaa
set_option linter.unusedVariables false

/-- Each thing leads to a lesser one. -/
def Falls (f : Int → Option Int) : Prop := ∀ x y, f x = some y → 0 ≤ y ∧ y < x
def rt (f : Int → Option Int) : Nat → Int → Int
  | 0, x => x
  | n + 1, x => match f x with | none => x | some y => rt f n y
def root (f : Int → Option Int) (x : Int) : Int := rt f (x.toNat + 1) x
theorem rt_fuel {f : Int → Option Int} (hf : Falls f) : ∀ (n : Nat) (x : Int), x.toNat < n → rt f n x = root f x := by
  have key : ∀ (n m : Nat) (x : Int), x.toNat < n → x.toNat < m → rt f n x = rt f m x := by
    intro n
    induction n with
    | zero => intro m x h; omega
    | succ n ih =>
      intro m x h1 h2
      cases m with
      | zero => omega
      | succ m =>
        rw [rt, rt]
        cases hx : f x with
        | none => rfl
        | some y =>
          have := hf x y hx
          exact ih m y (by omega) (by omega)
  intro n x h
  exact key _ _ _ h (by omega)
theorem root_none {f : Int → Option Int} {x : Int} (h : f x = none) : root f x = x := by unfold root; rw [rt, h]
theorem root_some {f : Int → Option Int} (hf : Falls f) {x y : Int} (h : f x = some y) : root f x = root f y := by
  unfold root
  rw [rt, h]
  have := hf x y h
  exact (rt_fuel hf _ _ (by omega)).trans rfl
theorem root_spec {f : Int → Option Int} (hf : Falls f) : ∀ (n : Nat) (x : Int), x.toNat < n → f (root f x) = none ∧ (0 ≤ x → 0 ≤ root f x ∧ root f x ≤ x) := by
  intro n
  induction n with
  | zero => intro x h; omega
  | succ n ih =>
    intro x h
    cases hx : f x with
    | none => rw [root_none hx]; exact ⟨hx, fun h => ⟨h, Int.le_refl _⟩⟩
    | some y =>
      have hy := hf x y hx
      rw [root_some hf hx]
      have := ih y (by omega)
      exact ⟨this.1, fun _ => by have := this.2 hy.1; omega⟩
theorem root_end {f : Int → Option Int} (hf : Falls f) (x : Int) : f (root f x) = none := (root_spec hf _ x (Nat.lt_succ_self _)).1
theorem root_le {f : Int → Option Int} (hf : Falls f) {x : Int} (h : 0 ≤ x) : 0 ≤ root f x ∧ root f x ≤ x := (root_spec hf _ x (Nat.lt_succ_self _)).2 h
def upd (f : Int → Option Int) (hi lo : Int) : Int → Option Int := fun x => if x = hi then some lo else f x
theorem upd_falls {f : Int → Option Int} (hf : Falls f) {hi lo : Int} (h0 : 0 ≤ lo) (h : lo < hi) : Falls (upd f hi lo) := by
  intro x y hxy
  unfold upd at hxy
  by_cases e : x = hi
  · rw [if_pos e] at hxy; injection hxy with hxy; omega
  · rw [if_neg e] at hxy; exact hf x y hxy
theorem root_upd {f : Int → Option Int} (hf : Falls f) {hi lo : Int} (h0 : 0 ≤ lo) (h : lo < hi) (h1 : f hi = none) (h2 : f lo = none) : ∀ (n : Nat) (x : Int), x.toNat < n → root (upd f hi lo) x = if root f x = hi then lo else root f x := by
  have hu := upd_falls hf h0 h
  have hlo : root (upd f hi lo) lo = lo := root_none (by unfold upd; rw [if_neg (by omega)]; exact h2)
  intro n
  induction n with
  | zero => intro x h; omega
  | succ n ih =>
    intro x hx
    cases e : f x with
    | none =>
      rw [root_none e]
      by_cases he : x = hi
      · rw [if_pos he, root_some hu (show upd f hi lo x = some lo by unfold upd; rw [if_pos he]), hlo]
      · rw [if_neg he, root_none (show upd f hi lo x = none by unfold upd; rw [if_neg he]; exact e)]
    | some y =>
      have hy := hf x y e
      have hne : x ≠ hi := fun he => by rw [he, h1] at e; cases e
      rw [root_some hf e, root_some hu (show upd f hi lo x = some y by unfold upd; rw [if_neg hne]; exact e)]
      exact ih y (by omega)
/-- The labels behind one more airway, with the ends a and b. -/
def labS (lab : Int → Int) (a b : Int) : Int → Int := fun j =>
  if lab j = (if lab b < lab a then lab a else lab b) then (if lab a < lab b then lab a else lab b) else lab j
/-- Joining two sets: the program's map, when their least things differ. -/
def joinF (f : Int → Option Int) (a b : Int) : Int → Option Int :=
  if root f a = root f b then f else upd f (max (root f a) (root f b)) (min (root f a) (root f b))
theorem joinF_falls {f : Int → Option Int} (hf : Falls f) {a b : Int} (ha : 0 ≤ a) (hb : 0 ≤ b) : Falls (joinF f a b) := by
  have h1 := root_le hf ha
  have h2 := root_le hf hb
  unfold joinF
  split
  · exact hf
  · exact upd_falls hf (by omega) (by omega)
/-- The least things are the labels. -/
theorem root_join {f : Int → Option Int} (hf : Falls f) {a b : Int} (ha : 0 ≤ a) (hb : 0 ≤ b) (x : Int) : root (joinF f a b) x = labS (root f) a b x := by
  have h1 := root_le hf ha
  have h2 := root_le hf hb
  have e1 := root_end hf a
  have e2 := root_end hf b
  unfold joinF labS
  by_cases h : root f a = root f b
  · rw [if_pos h, h]; simp
  · rw [if_neg h]
    rcases Int.lt_or_le (root f a) (root f b) with q | q
    · rw [show max (root f a) (root f b) = root f b by omega, show min (root f a) (root f b) = root f a by omega, if_neg (show ¬ root f b < root f a by omega), if_pos q]
      exact root_upd hf (by omega) q e2 e1 _ x (Nat.lt_succ_self _)
    · rw [show max (root f a) (root f b) = root f a by omega, show min (root f a) (root f b) = root f b by omega, if_pos (show root f b < root f a by omega), if_neg (show ¬ root f a < root f b by omega)]
      exact root_upd hf (by omega) (by omega) e1 e2 _ x (Nat.lt_succ_self _)
/-- The map behind airways with these ends. -/
def joinsF : List (Int × Int) → Int → Option Int
  | [] => fun _ => none
  | e :: es => joinF (joinsF es) e.1 e.2
def labsE : List (Int × Int) → Int → Int
  | [] => id
  | e :: es => labS (labsE es) e.1 e.2
theorem joinsF_falls : ∀ es : List (Int × Int), (∀ e ∈ es, 0 ≤ e.1 ∧ 0 ≤ e.2) → Falls (joinsF es)
  | [], _ => fun x y h => by cases h
  | e :: es, h => joinF_falls (joinsF_falls es (fun x hx => h x (List.mem_cons_of_mem _ hx))) (h e List.mem_cons_self).1 (h e List.mem_cons_self).2
theorem root_joins : ∀ es : List (Int × Int), (∀ e ∈ es, 0 ≤ e.1 ∧ 0 ≤ e.2) → root (joinsF es) = labsE es
  | [], _ => by funext x; exact root_none rfl
  | e :: es, h => by
    have ih := root_joins es (fun x hx => h x (List.mem_cons_of_mem _ hx))
    funext x
    rw [joinsF, labsE, ← ih]
    exact root_join (joinsF_falls es (fun x hx => h x (List.mem_cons_of_mem _ hx))) (h e List.mem_cons_self).1 (h e List.mem_cons_self).2 x
theorem labs_le (es : List (Int × Int)) (h : ∀ e ∈ es, 0 ≤ e.1 ∧ 0 ≤ e.2) {x : Int} (hx : 0 ≤ x) : 0 ≤ labsE es x ∧ labsE es x ≤ x := by
  rw [← root_joins es h]
  exact root_le (joinsF_falls es h) hx
end Go.Proofs.Ytjooebiiceillaa
