/-
  Potentials, plain mathematics: rounds of lowering settle within as many rounds as there are junctions, or never. Conditions: those that each theorem states.
-/
import Derived.Test.YthbofhlfggkolaaDoorBa
namespace Go.Proofs.YthbofhlfggkolaaDoor
set_option linter.unusedVariables false
set_option linter.unusedSimpArgs false

/-- An edge: from, to, gain. -/
structure Ed where
  a : Nat
  b : Nat
  g : Int
def pv (p : List Int) (v : Nat) : Int := p.getD v 0
theorem pv_set {p : List Int} {b : Nat} (h : b < p.length) (x : Int) (v : Nat) : pv (p.set b x) v = if v = b then x else pv p v := by
  unfold pv
  by_cases e : v = b
  · subst e; rw [if_pos rfl]; simp [List.getD, h]
  · rw [if_neg e]; simp [List.getD, List.getElem?_set, Ne.symm e]
def chE (p : List Int) (e : Ed) : Bool := decide (pv p e.a + e.g < pv p e.b)
def reE (p : List Int) (e : Ed) : List Int := if chE p e then p.set e.b (pv p e.a + e.g) else p
theorem reE_len (p : List Int) (e : Ed) : (reE p e).length = p.length := by unfold reE; split <;> simp
/-- One round, and whether it changes something. -/
def rel (p : List Int) : List Ed → List Int
  | [] => p
  | e :: es => rel (reE p e) es
def chg (p : List Int) : List Ed → Bool
  | [] => false
  | e :: es => chE p e || chg (reE p e) es
theorem rel_len (es : List Ed) : ∀ p : List Int, (rel p es).length = p.length := by
  induction es with
  | nil => intro p; rfl
  | cons e es ih => intro p; rw [rel, ih, reE_len]
theorem rel_app (xs ys : List Ed) : ∀ p : List Int, rel p (xs ++ ys) = rel (rel p xs) ys := by
  induction xs with
  | nil => intro p; rfl
  | cons e es ih => intro p; exact ih _
theorem chg_app (xs ys : List Ed) : ∀ p : List Int, chg p (xs ++ ys) = (chg p xs || chg (rel p xs) ys) := by
  induction xs with
  | nil => intro p; simp [chg, rel]
  | cons e es ih => intro p; rw [List.cons_append, chg, chg, rel, ih, Bool.or_assoc]
theorem rel_still (es : List Ed) : ∀ p : List Int, chg p es = false → rel p es = p := by
  induction es with
  | nil => intro p _; rfl
  | cons e es ih =>
    intro p h
    rw [chg, Bool.or_eq_false_iff] at h
    have h1 : reE p e = p := by unfold reE; rw [h.1]; rfl
    rw [rel, h1]
    exact ih p (h1 ▸ h.2)
/-- n rounds. -/
def itR (es : List Ed) (p : List Int) : Nat → List Int
  | 0 => p
  | n + 1 => rel (itR es p n) es
theorem itR_len (es : List Ed) (p : List Int) : ∀ n, (itR es p n).length = p.length
  | 0 => rfl
  | n + 1 => by rw [itR, rel_len, itR_len es p n]
def Ok (J : Nat) (es : List Ed) : Prop := ∀ e ∈ es, e.a < J ∧ e.b < J
def Feas (es : List Ed) (Q : Nat → Int) : Prop := ∀ e ∈ es, Q e.b ≤ Q e.a + e.g
theorem feas_of_still (es : List Ed) (p : List Int) : chg p es = false → Feas es (pv p) := by
  induction es with
  | nil => intro _ e he; cases he
  | cons e es ih =>
    intro h x hx
    rw [chg, Bool.or_eq_false_iff] at h
    have h1 : reE p e = p := by unfold reE; rw [h.1]; rfl
    rcases List.mem_cons.1 hx with rfl | hx
    · have := h.1
      unfold chE at this
      simp only [decide_eq_false_iff_not] at this
      omega
    · exact ih (h1 ▸ h.2) x hx
theorem still_of_feas (es : List Ed) (p : List Int) (h : Feas es (pv p)) : chg p es = false := by
  induction es with
  | nil => rfl
  | cons e es ih =>
    have he := h e List.mem_cons_self
    have h1 : chE p e = false := by unfold chE; simp only [decide_eq_false_iff_not]; omega
    have h2 : reE p e = p := by unfold reE; rw [h1]; rfl
    rw [chg, h1, h2, Bool.false_or]
    exact ih (fun x hx => h x (List.mem_cons_of_mem _ hx))
theorem reE_le {J : Nat} {p : List Int} {e : Ed} (hb : e.b < p.length) (v : Nat) : pv (reE p e) v ≤ pv p v := by
  unfold reE
  cases h : chE p e
  · exact Int.le_refl _
  · rw [if_pos rfl, pv_set hb]
    split
    · rename_i hv
      subst hv
      unfold chE at h
      simp only [decide_eq_true_eq] at h
      omega
    · exact Int.le_refl _
theorem reE_ge {Q : Nat → Int} {p : List Int} {e : Ed} (hb : e.b < p.length) (hf : Q e.b ≤ Q e.a + e.g) (h : ∀ v, v < p.length → Q v ≤ pv p v) (ha : e.a < p.length) : ∀ v, v < p.length → Q v ≤ pv (reE p e) v := by
  intro v hv
  unfold reE
  cases hc : chE p e
  · exact h v hv
  · rw [if_pos rfl, pv_set hb]
    split
    · rename_i e1
      subst e1
      have := h e.a ha
      omega
    · exact h v hv
theorem rel_le {J : Nat} : ∀ (es : List Ed) (p : List Int), p.length = J → Ok J es → ∀ v, pv (rel p es) v ≤ pv p v
  | [], _, _, _, _ => Int.le_refl _
  | e :: es, p, hp, ho, v => by
    have h1 := ho e List.mem_cons_self
    exact Int.le_trans (rel_le es (reE p e) (by rw [reE_len, hp]) (fun x hx => ho x (List.mem_cons_of_mem _ hx)) v) (reE_le (J := J) (by rw [hp]; exact h1.2) v)
theorem rel_ge {J : Nat} {Q : Nat → Int} : ∀ (es : List Ed) (p : List Int), p.length = J → Ok J es → Feas es Q → (∀ v, v < J → Q v ≤ pv p v) → ∀ v, v < J → Q v ≤ pv (rel p es) v
  | [], _, _, _, _, h => h
  | e :: es, p, hp, ho, hf, h => by
    have h1 := ho e List.mem_cons_self
    exact rel_ge es (reE p e) (by rw [reE_len, hp]) (fun x hx => ho x (List.mem_cons_of_mem _ hx)) (fun x hx => hf x (List.mem_cons_of_mem _ hx)) (fun v hv => reE_ge (by omega) (hf e List.mem_cons_self) (by rw [hp]; exact h) (by omega) v (by omega))
/-- A tight edge from what is settled settles its end. -/
theorem rel_tight {J : Nat} {Q : Nat → Int} {e : Ed} : ∀ (es : List Ed) (p : List Int), p.length = J → Ok J es → Feas es Q → (∀ v, v < J → Q v ≤ pv p v) → e ∈ es → pv p e.a = Q e.a → Q e.b = Q e.a + e.g → pv (rel p es) e.b = Q e.b
  | [], _, _, _, _, _, he, _, _ => by cases he
  | x :: es, p, hp, ho, hf, h, he, ha, ht => by
    have h1 := ho x List.mem_cons_self
    have hge := reE_ge (Q := Q) (p := p) (e := x) (by omega) (hf x List.mem_cons_self) (by rw [hp]; exact h) (by omega)
    have hp2 : (reE p x).length = J := by rw [reE_len, hp]
    have ho2 : Ok J es := fun y hy => ho y (List.mem_cons_of_mem _ hy)
    have hf2 : Feas es Q := fun y hy => hf y (List.mem_cons_of_mem _ hy)
    have hge2 : ∀ v, v < J → Q v ≤ pv (reE p x) v := fun v hv => hge v (by omega)
    rcases List.mem_cons.1 he with rfl | he
    · have hb : pv (reE p e) e.b = Q e.b := by
        have h2 := hge2 e.b h1.2
        have h3 : pv (reE p e) e.b ≤ Q e.b := by
          unfold reE
          cases hc : chE p e
          · unfold chE at hc
            simp only [decide_eq_false_iff_not] at hc
            show pv p e.b ≤ _
            omega
          · rw [if_pos rfl, pv_set (by omega), if_pos rfl]; omega
        omega
      have h4 := rel_le es (reE p e) hp2 ho2 e.b
      have h5 := rel_ge es (reE p e) hp2 ho2 hf2 hge2 e.b h1.2
      show pv (rel (reE p e) es) e.b = _
      omega
    · have hax := ho e (List.mem_cons_of_mem _ he)
      have h2 := hge2 e.a hax.1
      have h3 := reE_le (J := J) (p := p) (e := x) (by omega) e.a
      exact rel_tight es (reE p x) hp2 ho2 hf2 hge2 he (by omega) ht
/-- How many below n. -/
def cnt (f : Nat → Bool) : Nat → Nat
  | 0 => 0
  | n + 1 => cnt f n + (if f n then 1 else 0)
theorem cnt_le (f : Nat → Bool) : ∀ n, cnt f n ≤ n
  | 0 => Nat.le_refl _
  | n + 1 => by have := cnt_le f n; rw [cnt]; split <;> omega
theorem cnt_mono {f h : Nat → Bool} : ∀ n, (∀ v, v < n → h v = true → f v = true) → cnt h n ≤ cnt f n
  | 0, _ => Nat.le_refl _
  | n + 1, hh => by
    have ih := cnt_mono n (fun v hv => hh v (by omega))
    have := hh n (by omega)
    rw [cnt, cnt]
    cases h1 : h n <;> cases h2 : f n <;> simp [h1, h2] at this ⊢ <;> omega
theorem cnt_lt {f h : Nat → Bool} {v0 : Nat} : ∀ n, (∀ v, v < n → h v = true → f v = true) → v0 < n → f v0 = true → h v0 = false → cnt h n < cnt f n
  | 0, _, hv, _, _ => absurd hv (by omega)
  | n + 1, hh, hv, h1, h2 => by
    rw [cnt, cnt]
    by_cases e : v0 = n
    · subst e
      have := cnt_mono v0 (fun v hv => hh v (by omega))
      rw [h1, h2]
      simp
      omega
    · have ih := cnt_lt n (fun v hv => hh v (by omega)) (by omega) h1 h2
      have := hh n (by omega)
      cases h3 : h n <;> cases h4 : f n <;> simp [h3, h4] at this ⊢ <;> omega
theorem cnt_zero {f : Nat → Bool} : ∀ n, cnt f n = 0 → ∀ v, v < n → f v = false
  | 0, _, v, hv => absurd hv (by omega)
  | n + 1, h, v, hv => by
    rw [cnt] at h
    by_cases e : v = n
    · subst e; cases hf : f v <;> simp [hf] at h ⊢
    · exact cnt_zero n (by omega) v (by omega)
theorem least_ex {P : Nat → Prop} : (∃ n, P n) → ∃ n, P n ∧ ∀ m, m < n → ¬ P m := by
  intro ⟨n, hn⟩
  induction n using Nat.strongRecOn with
  | ind n ih =>
    rcases Classical.em (∃ m, m < n ∧ P m) with ⟨m, hm, hp⟩ | h
    · exact ih m hm hp
    · exact ⟨n, hn, fun m hm hp => h ⟨m, hm, hp⟩⟩
/-- The greatest feasible potentials of at most 0. -/
theorem greatest {es : List Ed} {J : Nat} (ho : Ok J es) (h : ∃ Q, Feas es Q ∧ ∀ v, v < J → Q v ≤ 0) : ∃ Q, (Feas es Q ∧ ∀ v, v < J → Q v ≤ 0) ∧ ∀ Q', Feas es Q' → (∀ v, v < J → Q' v ≤ 0) → ∀ v, v < J → Q' v ≤ Q v := by
  have hv : ∀ v : Nat, ∃ x : Int, v < J → (∃ Q, Feas es Q ∧ (∀ u, u < J → Q u ≤ 0) ∧ Q v = x) ∧ ∀ Q, Feas es Q → (∀ u, u < J → Q u ≤ 0) → Q v ≤ x := by
    intro v
    by_cases hJ : v < J
    · obtain ⟨n, ⟨Q, hQ, h0, e⟩, hmin⟩ := least_ex (P := fun n => ∃ Q, Feas es Q ∧ (∀ u, u < J → Q u ≤ 0) ∧ Q v = -(n : Int)) (by
        obtain ⟨Q, hQ, h0⟩ := h
        exact ⟨(-(Q v)).toNat, Q, hQ, h0, by have := h0 v hJ; omega⟩)
      refine ⟨-(n : Int), fun _ => ⟨⟨Q, hQ, h0, e⟩, fun Q' hQ' h0' => ?_⟩⟩
      apply Int.not_lt.1
      intro hlt
      have := h0' v hJ
      exact hmin (-(Q' v)).toNat (by omega) ⟨Q', hQ', h0', by omega⟩
    · exact ⟨0, fun h => absurd h hJ⟩
  refine ⟨fun v => Classical.choose (hv v), ⟨fun e he => ?_, fun v hJ => ?_⟩, fun Q' hQ' h0' v hJ => (Classical.choose_spec (hv v) hJ).2 Q' hQ' h0'⟩
  · obtain ⟨ha, hb⟩ := ho e he
    obtain ⟨Q, hQ, h0, e1⟩ := (Classical.choose_spec (hv e.b) hb).1
    have h1 := hQ e he
    have h2 := (Classical.choose_spec (hv e.a) ha).2 Q hQ h0
    show Classical.choose (hv e.b) ≤ Classical.choose (hv e.a) + e.g
    rw [← e1]
    omega
  · obtain ⟨Q, hQ, h0, e1⟩ := (Classical.choose_spec (hv v) hJ).1
    show Classical.choose (hv v) ≤ 0
    rw [← e1]
    exact h0 v hJ
/-- If potentials fit at all, the rounds settle before there are as many as junctions, at the greatest ones. -/
theorem settles {es : List Ed} {J : Nat} (hJ : 1 ≤ J) (ho : Ok J es) (h : ∃ Q, Feas es Q ∧ ∀ v, v < J → Q v ≤ 0) : chg (itR es (List.replicate J 0) (J - 1)) es = false := by
  obtain ⟨Q, ⟨hQ, h0⟩, hmax⟩ := greatest ho h
  have hl : ∀ k, (itR es (List.replicate J 0) k).length = J := fun k => by rw [itR_len]; simp
  have hge : ∀ k v, v < J → Q v ≤ pv (itR es (List.replicate J 0) k) v := by
    intro k
    induction k with
    | zero =>
      intro v hv
      rw [show pv (itR es (List.replicate J 0) 0) v = 0 by simp [itR, pv, List.getD, hv]]
      exact h0 v hv
    | succ k ih => exact rel_ge es _ (hl k) ho hQ ih
  have hneg : ∀ k v, v < J → pv (itR es (List.replicate J 0) k) v ≤ 0 := by
    intro k
    induction k with
    | zero => intro v hv; rw [show pv (itR es (List.replicate J 0) 0) v = 0 by simp [itR, pv, List.getD, hv]]; omega
    | succ k ih => intro v hv; exact Int.le_trans (rel_le es _ (hl k) ho v) (ih v hv)
  have htight : ∀ k, (∃ u, u < J ∧ pv (itR es (List.replicate J 0) k) u ≠ Q u) → ∃ e ∈ es, pv (itR es (List.replicate J 0) k) e.a = Q e.a ∧ pv (itR es (List.replicate J 0) k) e.b ≠ Q e.b ∧ Q e.b = Q e.a + e.g := by
    intro k ⟨u, hu, hne⟩
    apply Classical.byContradiction
    intro hno
    have hcut : ∀ e ∈ es, pv (itR es (List.replicate J 0) k) e.a = Q e.a → pv (itR es (List.replicate J 0) k) e.b ≠ Q e.b → Q e.b + 1 ≤ Q e.a + e.g := by
      intro e he ha hb
      have h1 := hQ e he
      by_cases ht : Q e.b = Q e.a + e.g
      · exact absurd ⟨e, he, ha, hb, ht⟩ hno
      · omega
    have hf : Feas es (fun v => if pv (itR es (List.replicate J 0) k) v = Q v then Q v else Q v + 1) := by
      intro e he
      have h1 := hQ e he
      show (if pv (itR es (List.replicate J 0) k) e.b = Q e.b then Q e.b else Q e.b + 1) ≤ (if pv (itR es (List.replicate J 0) k) e.a = Q e.a then Q e.a else Q e.a + 1) + e.g
      by_cases hb : pv (itR es (List.replicate J 0) k) e.b = Q e.b
      · rw [if_pos hb]; split <;> omega
      · rw [if_neg hb]
        by_cases ha : pv (itR es (List.replicate J 0) k) e.a = Q e.a
        · rw [if_pos ha]; exact hcut e he ha hb
        · rw [if_neg ha]; omega
    have hz : ∀ v, v < J → (if pv (itR es (List.replicate J 0) k) v = Q v then Q v else Q v + 1) ≤ 0 := by
      intro v hv
      have h1 := hge k v hv
      have h2 := hneg k v hv
      have h3 := h0 v hv
      split <;> omega
    have := hmax _ hf hz u hu
    simp only [if_neg hne] at this
    omega
  have hcnt : ∀ k, k + 1 ≤ J → cnt (fun v => decide (pv (itR es (List.replicate J 0) k) v ≠ Q v)) J ≤ J - (k + 1) := by
    intro k
    induction k with
    | zero =>
      intro _
      by_cases hall : ∃ u, u < J ∧ pv (itR es (List.replicate J 0) 0) u ≠ Q u
      · obtain ⟨e, he, ha, -, -⟩ := htight 0 hall
        have h1 := cnt_lt (f := fun _ => true) (h := fun v => decide (pv (itR es (List.replicate J 0) 0) v ≠ Q v)) J (fun _ _ _ => rfl) (ho e he).1 rfl (by simpa using ha)
        have := cnt_le (fun _ => true) J
        omega
      · have h1 : cnt (fun v => decide (pv (itR es (List.replicate J 0) 0) v ≠ Q v)) J ≤ cnt (fun _ => false) J := cnt_mono J (fun v hv hh => absurd ⟨v, hv, by simpa using hh⟩ hall)
        have h2 : ∀ n, cnt (fun _ => false) n = 0 := fun n => by
          induction n with
          | zero => rfl
          | succ n ih => rw [cnt, ih]; rfl
        rw [h2] at h1
        omega
    | succ k ih =>
      intro hk
      have ih := ih (by omega)
      have hstay : ∀ v, v < J → decide (pv (itR es (List.replicate J 0) (k + 1)) v ≠ Q v) = true → decide (pv (itR es (List.replicate J 0) k) v ≠ Q v) = true := by
        intro v hv hh
        simp only [decide_eq_true_eq] at hh ⊢
        intro e
        apply hh
        have h1 := rel_le es _ (hl k) ho v
        have h2 := hge (k + 1) v hv
        show pv (rel (itR es (List.replicate J 0) k) es) v = Q v
        have h3 : Q v ≤ pv (rel (itR es (List.replicate J 0) k) es) v := h2
        omega
      by_cases hall : ∃ u, u < J ∧ pv (itR es (List.replicate J 0) k) u ≠ Q u
      · obtain ⟨e, he, ha, hb, ht⟩ := htight k hall
        have h1 := rel_tight es _ (hl k) ho hQ (hge k) he ha ht
        have := cnt_lt (f := fun v => decide (pv (itR es (List.replicate J 0) k) v ≠ Q v)) (h := fun v => decide (pv (itR es (List.replicate J 0) (k + 1)) v ≠ Q v)) J hstay (ho e he).2 (by simpa using hb) (by simp only [decide_eq_false_iff_not, Decidable.not_not]; exact h1)
        omega
      · have h1 : cnt (fun v => decide (pv (itR es (List.replicate J 0) (k + 1)) v ≠ Q v)) J ≤ cnt (fun _ => false) J := cnt_mono J (fun v hv hh => absurd ⟨v, hv, by simpa using hstay v hv hh⟩ hall)
        have h2 : ∀ n, cnt (fun _ => false) n = 0 := fun n => by
          induction n with
          | zero => rfl
          | succ n ih => rw [cnt, ih]; rfl
        rw [h2] at h1
        omega
  have hz := cnt_zero J (Nat.le_zero.1 (by have := hcnt (J - 1) (by omega); omega : cnt (fun v => decide (pv (itR es (List.replicate J 0) (J - 1)) v ≠ Q v)) J ≤ 0))
  apply still_of_feas
  intro e he
  obtain ⟨ha, hb⟩ := ho e he
  have h1 := hz e.a ha
  have h2 := hz e.b hb
  simp only [decide_eq_false_iff_not, Decidable.not_not] at h1 h2
  rw [h1, h2]
  exact hQ e he
/-- As many rounds as there are junctions are enough: a later round tells no more. -/
theorem settles_in {es : List Ed} {J n : Nat} (hJ : 1 ≤ J) (ho : Ok J es) (h : chg (itR es (List.replicate J 0) n) es = false) : chg (itR es (List.replicate J 0) (J - 1)) es = false := by
  refine settles hJ ho ⟨_, feas_of_still es _ h, ?_⟩
  have hl : ∀ k, (itR es (List.replicate J 0) k).length = J := fun k => by rw [itR_len]; simp
  have hneg : ∀ k v, v < J → pv (itR es (List.replicate J 0) k) v ≤ 0 := by
    intro k
    induction k with
    | zero => intro v hv; rw [show pv (itR es (List.replicate J 0) 0) v = 0 by simp [itR, pv, List.getD, hv]]; omega
    | succ k ih => intro v hv; exact Int.le_trans (rel_le es _ (hl k) ho v) (ih v hv)
  exact hneg n
end Go.Proofs.YthbofhlfggkolaaDoor
