/-
  Shortest lists of moves between states, pure. Conditions: those that each theorem states.
-/
import Derived.Test.YthbofhlfggkolaaRows
import Derived.Lib.Hide
namespace Go.Proofs.Ythbofhlfggkolaa
open Go.RowKit
set_option linter.unusedVariables false
set_option linter.unusedSimpArgs false

section
variable (n : Nat) (ok : Nat → Bool) (nx : Nat → Nat → Nat)
/-- A list of moves leads from one state to another through states that are allowed. -/
def Pth : Nat → List Nat → Nat → Prop
  | s, [], t => s = t
  | s, d :: p, t => d < n ∧ ok (nx s d) = true ∧ Pth (nx s d) p t
theorem pth_snoc {t d : Nat} : ∀ {p : List Nat} {s : Nat}, Pth n ok nx s (p ++ [d]) t ↔ ∃ m, Pth n ok nx s p m ∧ d < n ∧ ok (nx m d) = true ∧ nx m d = t
  | [], s => by simp [Pth]
  | e :: p, s => by
    have ih := pth_snoc (t := t) (d := d) (p := p) (s := nx s e)
    simp only [List.cons_append, Pth, ih]
    constructor
    · rintro ⟨a, b, m, c⟩; exact ⟨m, ⟨a, b, c.1⟩, c.2⟩
    · rintro ⟨m, ⟨a, b, c⟩, d⟩; exact ⟨a, b, m, c, d⟩
theorem pth_app {t u : Nat} {q : List Nat} : ∀ {p : List Nat} {s : Nat}, Pth n ok nx s p t → Pth n ok nx t q u → Pth n ok nx s (p ++ q) u
  | [], s, h, h2 => by cases h; exact h2
  | e :: p, s, h, h2 => ⟨h.1, h.2.1, pth_app h.2.2 h2⟩
/-- The first list differs first by a smaller move. -/
def lx : List Nat → List Nat → Prop
  | d :: p, e :: q => d < e ∨ (d = e ∧ lx p q)
  | _, _ => False
def sl (p q : List Nat) : Prop := p.length < q.length ∨ (p.length = q.length ∧ lx p q)
def sle (p q : List Nat) : Prop := p = q ∨ sl p q
theorem lx_trans : ∀ {p q r : List Nat}, lx p q → lx q r → lx p r
  | d :: p, e :: q, f :: r, h1, h2 => by
    rcases h1 with a | ⟨rfl, a⟩ <;> rcases h2 with b | ⟨rfl, b⟩
    · exact .inl (by omega)
    · exact .inl a
    · exact .inl b
    · exact .inr ⟨rfl, lx_trans a b⟩
  | [], _, _, h1, _ => h1.elim
  | _ :: _, [], _, h1, _ => h1.elim
  | _ :: _, _ :: _, [], _, h2 => h2.elim
theorem lx_irrefl : ∀ {p : List Nat}, ¬ lx p p
  | [], h => h
  | d :: p, h => by
    rcases h with a | ⟨_, a⟩
    · omega
    · exact lx_irrefl a
theorem sl_trans {p q r : List Nat} (h1 : sl p q) (h2 : sl q r) : sl p r := by
  rcases h1 with a | ⟨a, a2⟩ <;> rcases h2 with b | ⟨b, b2⟩
  · exact .inl (by omega)
  · exact .inl (by omega)
  · exact .inl (by omega)
  · exact .inr ⟨by omega, lx_trans a2 b2⟩
theorem sl_irrefl {p : List Nat} : ¬ sl p p := by
  rintro (a | ⟨_, a⟩)
  · omega
  · exact lx_irrefl a
theorem sle_anti {p q : List Nat} (h1 : sle p q) (h2 : sle q p) : p = q := by
  rcases h1 with rfl | a
  · rfl
  · rcases h2 with rfl | b
    · rfl
    · exact absurd (sl_trans a b) sl_irrefl
theorem sl_of_sle {p q r : List Nat} (h1 : sle p q) (h2 : sl q r) : sl p r := by
  rcases h1 with rfl | a
  · exact h2
  · exact sl_trans a h2
theorem lx_app (x y : List Nat) : ∀ {p q : List Nat}, lx p q → lx (p ++ x) (q ++ y)
  | d :: p, e :: q, h => by
    rcases h with a | ⟨rfl, a⟩
    · exact .inl a
    · exact .inr ⟨rfl, lx_app x y a⟩
  | [], _, h => h.elim
  | _ :: _, [], h => h.elim
theorem lx_last {x y : Nat} (h : x < y) : ∀ (p : List Nat), lx (p ++ [x]) (p ++ [y])
  | [] => .inl h
  | _ :: p => .inr ⟨rfl, lx_last h p⟩
theorem sl_snoc {p q : List Nat} (x y : Nat) (h : sl p q) : sl (p ++ [x]) (q ++ [y]) := by
  rcases h with a | ⟨a, b⟩
  · exact .inl (by simp; exact a)
  · exact .inr ⟨by simp; exact a, lx_app _ _ b⟩
theorem sl_last {x y : Nat} (p : List Nat) (h : x < y) : sl (p ++ [x]) (p ++ [y]) := .inr ⟨by simp, lx_last h p⟩
theorem sl_more (p : List Nat) (x : Nat) : sl p (p ++ [x]) := .inl (by simp)
theorem sle_snoc {p q : List Nat} (x : Nat) (h : sle p q) : sle (p ++ [x]) (q ++ [x]) := by
  rcases h with rfl | a
  · exact .inl rfl
  · exact .inr (sl_snoc x x a)
theorem sle_trans {p q r : List Nat} (h1 : sle p q) (h2 : sle q r) : sle p r := by
  rcases h2 with rfl | b
  · exact h1
  · exact .inr (sl_of_sle h1 b)
/-- The search: the states that were found, with their lists, in their order; the h-th one's moves below d0 have been tried. -/
structure Bfs (s0 : Nat) (E : List (Nat × List Nat)) (h d0 : Nat) : Prop where
  root : (s0, []) ∈ E
  pth : ∀ x ∈ E, Pth n ok nx s0 x.2 x.1
  srt : E.Pairwise (fun x y => sl x.2 y.2)
  key : E.Pairwise (fun x y => x.1 ≠ y.1)
  lim : ∀ hd, E[h]? = some hd → ∀ x ∈ E, sl x.2 (hd.2 ++ [d0])
  dn : ∀ j hd d, E[j]? = some hd → (j < h ∨ (j = h ∧ d < d0)) → d < n → ok (nx hd.1 d) = true → ∃ q, (nx hd.1 d, q) ∈ E ∧ sle q (hd.2 ++ [d])
variable {n ok nx}
theorem Bfs.start (s0 : Nat) : Bfs n ok nx s0 [(s0, [])] 0 0 where
  root := by simp
  pth := by simp [Pth]
  srt := by simp
  key := by simp
  lim := by
    intro hd e x hx
    simp at e hx
    subst e
    subst hx
    exact sl_more _ _
  dn := by
    intro j hd d e h
    omega
theorem Bfs.old {s0 h d0 : Nat} {E : List (Nat × List Nat)} (b : Bfs n ok nx s0 E h d0) {hd : Nat × List Nat} (e : E[h]? = some hd) (ho : ok (nx hd.1 d0) = true → ∃ q, (nx hd.1 d0, q) ∈ E) : Bfs n ok nx s0 E h (d0 + 1) where
  root := b.root
  pth := b.pth
  srt := b.srt
  key := b.key
  lim := fun hd' e' x hx => sl_trans (b.lim hd' e' x hx) (sl_last _ (by omega))
  dn := by
    intro j hd' d e' hj hd2 hok
    by_cases hx : j = h ∧ d = d0
    · obtain ⟨rfl, rfl⟩ := hx
      rw [e] at e'
      injection e' with e'
      subst e'
      obtain ⟨q, hq⟩ := ho hok
      exact ⟨q, hq, .inr (b.lim _ e _ hq)⟩
    · exact b.dn j hd' d e' (by omega) hd2 hok
theorem Bfs.new {s0 h d0 : Nat} {E : List (Nat × List Nat)} (b : Bfs n ok nx s0 E h d0) {hd : Nat × List Nat} (e : E[h]? = some hd) (hn : d0 < n) (ho : ok (nx hd.1 d0) = true) (hf : ∀ x ∈ E, x.1 ≠ nx hd.1 d0) :
    Bfs n ok nx s0 (E ++ [(nx hd.1 d0, hd.2 ++ [d0])]) h (d0 + 1) where
  root := List.mem_append_left _ b.root
  pth := by
    intro x hx
    rcases List.mem_append.1 hx with hx | hx
    · exact b.pth x hx
    · obtain rfl := List.mem_singleton.1 hx
      exact (pth_snoc n ok nx).2 ⟨hd.1, b.pth hd (List.mem_of_getElem? e), hn, ho, rfl⟩
  srt := List.pairwise_append.2 ⟨b.srt, by simp, fun x hx y hy => by obtain rfl := List.mem_singleton.1 hy; exact b.lim hd e x hx⟩
  key := List.pairwise_append.2 ⟨b.key, by simp, fun x hx y hy => by obtain rfl := List.mem_singleton.1 hy; exact hf x hx⟩
  lim := by
    intro hd' e' x hx
    have hl := (List.getElem?_eq_some_iff.1 e).1
    rw [List.getElem?_append_left hl, e] at e'
    injection e' with e'
    subst e'
    rcases List.mem_append.1 hx with hx | hx
    · exact sl_trans (b.lim hd e x hx) (sl_last _ (by omega))
    · obtain rfl := List.mem_singleton.1 hx
      exact sl_last _ (by omega)
  dn := by
    intro j hd' d e' hj hd2 hok
    have hl := (List.getElem?_eq_some_iff.1 e).1
    have hjl : j < E.length := by omega
    rw [List.getElem?_append_left hjl] at e'
    by_cases hx : j = h ∧ d = d0
    · obtain ⟨rfl, rfl⟩ := hx
      rw [e] at e'
      injection e' with e'
      subst e'
      exact ⟨_, List.mem_append_right _ (List.mem_singleton.2 rfl), .inl rfl⟩
    · obtain ⟨q, hq, hs⟩ := b.dn j hd' d e' (by omega) hd2 hok
      exact ⟨q, List.mem_append_left _ hq, hs⟩
theorem Bfs.next {s0 h : Nat} {E : List (Nat × List Nat)} (b : Bfs n ok nx s0 E h n) (hh : h < E.length) : Bfs n ok nx s0 E (h + 1) 0 where
  root := b.root
  pth := b.pth
  srt := b.srt
  key := b.key
  lim := by
    intro hd e x hx
    have hl := (List.getElem?_eq_some_iff.1 e).1
    have h1 := b.lim E[h] (List.getElem?_eq_getElem hh) x hx
    have h2 := List.pairwise_iff_getElem.1 b.srt h (h + 1) hh hl (by omega)
    rw [List.getElem?_eq_getElem hl] at e
    injection e with e
    subst e
    exact sl_trans h1 (sl_snoc _ _ h2)
  dn := by
    intro j hd d e hj hd2 hok
    exact b.dn j hd d e (by omega) hd2 hok
theorem Bfs.all {s0 : Nat} {E : List (Nat × List Nat)} {h : Nat} (b : Bfs n ok nx s0 E h 0) (hh : E.length ≤ h) : ∀ (k : Nat) (p : List Nat) (t : Nat), p.length = k → Pth n ok nx s0 p t → ∃ q, (t, q) ∈ E ∧ sle q p
  | 0, p, t, hk, hp => by
    obtain rfl := List.length_eq_zero_iff.1 hk
    cases hp
    exact ⟨[], b.root, .inl rfl⟩
  | k + 1, p, t, hk, hp => by
    have hne : p ≠ [] := by intro e; subst e; simp at hk
    rw [← List.dropLast_concat_getLast hne] at hp ⊢
    obtain ⟨m, hm, hd, hok, rfl⟩ := (pth_snoc n ok nx).1 hp
    obtain ⟨q, hq, hs⟩ := Bfs.all b hh k p.dropLast m (by simp; omega) hm
    obtain ⟨j, hj, e⟩ := List.mem_iff_getElem.1 hq
    obtain ⟨q2, hq2, hs2⟩ := b.dn j (m, q) _ (by rw [List.getElem?_eq_getElem hj, e]) (.inl (by omega)) hd hok
    exact ⟨q2, hq2, sle_trans hs2 (sle_snoc _ hs)⟩
end
section
variable {n : Nat} {ok : Nat → Bool} {nx : Nat → Nat → Nat}
/-- How many moves lead to the last state. -/
structure Far (n : Nat) (ok : Nat → Bool) (nx : Nat → Nat → Nat) (N t0 : Nat) (far : Nat → Int) : Prop where
  a : ∀ s (k : Nat), s < N → far s = (k : Int) → ∃ p, p.length = k ∧ Pth n ok nx s p t0
  b : ∀ s p, s < N → p.length ≤ N → ok s = true → Pth n ok nx s p t0 → 0 ≤ far s ∧ far s ≤ (p.length : Int)
  c : ∀ s, s < N → 0 ≤ far s → ok s = true
  nx : ∀ s d, s < N → d < n → nx s d < N
def gd (n : Nat) (nx : Nat → Nat → Nat) (far : Nat → Int) (s : Nat) : Nat := ((List.range n).find? (fun i => decide (far (nx s i) = far s - 1))).getD 0
/-- The list that always takes the first move that leads nearer. -/
def gr (n : Nat) (nx : Nat → Nat → Nat) (far : Nat → Int) : Nat → Nat → List Nat
  | 0, _ => []
  | k + 1, s => gd n nx far s :: gr n nx far k (nx s (gd n nx far s))
theorem gr_len (far : Nat → Int) : ∀ (k s : Nat), (gr n nx far k s).length = k
  | 0, _ => rfl
  | k + 1, s => by simp [gr, gr_len]
theorem Far.near {N t0 : Nat} {far : Nat → Int} (f : Far n ok nx N t0 far) {s k d : Nat} {p : List Nat} (hs : s < N) (hk : k + 1 ≤ N) (h : far s = ((k + 1 : Nat) : Int)) (hp : Pth n ok nx s (d :: p) t0) (hl : p.length = k) : far (nx s d) = (k : Int) := by
  obtain ⟨h1, h2, h3⟩ := hp
  have hn := f.nx s d hs h1
  obtain ⟨b1, b2⟩ := f.b (nx s d) p hn (by omega) h2 h3
  obtain ⟨j, hj⟩ : ∃ j : Nat, far (nx s d) = (j : Int) := ⟨(far (nx s d)).toNat, by omega⟩
  obtain ⟨q, hq, hq2⟩ := f.a _ j hn hj
  obtain ⟨_, c2⟩ := f.b s (d :: q) hs (by simp; omega) (f.c s hs (by omega)) ⟨h1, h2, hq2⟩
  simp only [List.length_cons] at c2
  omega
theorem gd_spec {far : Nat → Int} {s d : Nat} (hd : d < n) (h : far (nx s d) = far s - 1) : gd n nx far s < n ∧ far (nx s (gd n nx far s)) = far s - 1 ∧ gd n nx far s ≤ d := by
  unfold gd
  cases e : (List.range n).find? (fun i => decide (far (nx s i) = far s - 1)) with
  | none =>
    have := List.find?_eq_none.1 e d (List.mem_range.2 hd)
    simp [h] at this
  | some i =>
    obtain ⟨h1, aa, bb, h2, h3⟩ := List.find?_eq_some_iff_append.1 e
    have hi : i < n := by
      have : i ∈ List.range n := by rw [h2]; simp
      exact List.mem_range.1 this
    refine ⟨hi, by simpa using h1, ?_⟩
    show i ≤ d
    rcases Nat.lt_or_ge d i with q | q
    · exfalso
      have hl : aa.length = i := by
        have h4 : (List.range n)[aa.length]? = some i := by rw [h2]; simp
        have h5 := (List.getElem?_eq_some_iff.1 h4)
        obtain ⟨h6, h7⟩ := h5
        rw [List.getElem_range] at h7
        exact h7
      have hm : d ∈ aa := by
        have h4 : (List.range n)[d]? = some d := by rw [List.getElem?_range hd]
        rw [h2, List.getElem?_append_left (by omega)] at h4
        exact List.mem_of_getElem? h4
      have := h3 d hm
      simp [h] at this
    · exact q
theorem gd_eq {far : Nat → Int} {s q : Nat} (hq : q < n) (h : far (nx s q) = far s - 1) (hm : ∀ j, j < q → far (nx s j) ≠ far s - 1) : gd n nx far s = q := by
  obtain ⟨_, e, le⟩ := gd_spec (far := far) hq h
  rcases Nat.lt_or_ge (gd n nx far s) q with a | a
  · exact absurd e (hm _ a)
  · omega
theorem Far.some_near {N t0 : Nat} {far : Nat → Int} (f : Far n ok nx N t0 far) {s k : Nat} (hs : s < N) (hk : k + 1 ≤ N) (h : far s = ((k + 1 : Nat) : Int)) : ∃ e, e < n ∧ far (nx s e) = (k : Int) := by
  obtain ⟨p, hp, hp2⟩ := f.a s (k + 1) hs h
  cases p with
  | nil => simp at hp
  | cons d q => exact ⟨d, hp2.1, f.near hs hk h hp2 (by simpa using hp)⟩
theorem Far.greedy {N t0 : Nat} {far : Nat → Int} (f : Far n ok nx N t0 far) : ∀ (k s : Nat), s < N → k ≤ N → far s = (k : Int) → Pth n ok nx s (gr n nx far k s) t0 ∧ ∀ p, Pth n ok nx s p t0 → sle (gr n nx far k s) p
  | 0, s, hs, hk, h => by
    obtain ⟨p, hp, hp2⟩ := f.a s 0 hs h
    obtain rfl := List.length_eq_zero_iff.1 hp
    refine ⟨hp2, fun q hq => ?_⟩
    cases q with
    | nil => exact .inl rfl
    | cons d q => exact .inr (.inl (by simp [gr]))
  | k + 1, s, hs, hk, h => by
    obtain ⟨p, hp, hp2⟩ := f.a s (k + 1) hs h
    obtain ⟨d, p, rfl⟩ : ∃ d q, p = d :: q := by
      cases p with
      | nil => simp at hp
      | cons d q => exact ⟨d, q, rfl⟩
    have hn := f.near hs hk h hp2 (by simpa using hp)
    obtain ⟨g1, g2, _⟩ := gd_spec (far := far) hp2.1 (show far (nx s d) = far s - 1 by omega)
    have hx := f.nx s _ hs g1
    obtain ⟨i1, i2⟩ := Far.greedy f k (nx s (gd n nx far s)) hx (by omega) (by omega)
    refine ⟨⟨g1, f.c _ hx (by omega), i1⟩, fun q hq => ?_⟩
    rcases Nat.lt_or_ge (k + 1) q.length with hl | hl
    · exact .inr (.inl (by rw [gr_len]; exact hl))
    have hb := (f.b s q hs (by omega) (f.c s hs (by omega)) hq).2
    have hql : q.length = k + 1 := by omega
    obtain ⟨e, q, rfl⟩ : ∃ d r, q = d :: r := by
      cases q with
      | nil => simp at hql
      | cons d q => exact ⟨d, q, rfl⟩
    have hql2 : q.length = k := by simpa using hql
    have hn2 := f.near hs hk h hq hql2
    obtain ⟨_, _, g5⟩ := gd_spec (far := far) hq.1 (show far (nx s e) = far s - 1 by omega)
    rcases Nat.lt_or_ge (gd n nx far s) e with hlt | hge
    · exact .inr (.inr ⟨by simp [gr_len, hql2], .inl hlt⟩)
    · obtain rfl : e = gd n nx far s := by omega
      rcases i2 q hq.2.2 with hh | hh
      · exact .inl (by rw [← hh]; rfl)
      · rcases hh with hh | ⟨_, hh⟩
        · rw [gr_len] at hh; omega
        · exact .inr (.inr ⟨by simp [gr_len, hql2], .inr ⟨rfl, hh⟩⟩)
/-- What the search finds for the last state is the greedy list. -/
theorem Far.same {N s0 t0 h : Nat} {far : Nat → Int} (f : Far n ok nx N t0 far) {E : List (Nat × List Nat)} (b : Bfs n ok nx s0 E h 0) (hh : E.length ≤ h) {k : Nat} (hs : s0 < N) (hk : k ≤ N) (h0 : far s0 = (k : Int)) : (t0, gr n nx far k s0) ∈ E := by
  obtain ⟨g1, g2⟩ := f.greedy k s0 hs hk h0
  obtain ⟨q, hq, hs2⟩ := b.all hh _ _ t0 rfl g1
  have := sle_anti hs2 (g2 q (b.pth _ hq))
  rw [← this]
  exact hq
end
section
variable {n : Nat} {ok : Nat → Bool} {nx : Nat → Nat → Nat}
/-- The numbers of moves while they are laid: all states of fewer moves than stp, those of stp moves below bits, and of bits the moves below i0 have been tried. -/
structure Lay (n : Nat) (ok : Nat → Bool) (nx : Nat → Nat → Nat) (N t0 : Nat) (far : Nat → Int) (stp bits i0 : Nat) : Prop where
  a : ∀ s (k : Nat), s < N → far s = (k : Int) → ∃ p, p.length = k ∧ Pth n ok nx s p t0
  c : ∀ s, s < N → 0 ≤ far s → ok s = true
  lo : ∀ s, s < N → -1 ≤ far s ∧ far s ≤ (stp : Int) + 1
  root : far t0 = 0
  dn : ∀ s d (j : Nat), s < N → d < n → far s = (j : Int) → (j < stp ∨ (j = stp ∧ (s < bits ∨ (s = bits ∧ d < i0)))) → ok (nx s d) = true → 0 ≤ far (nx s d) ∧ far (nx s d) ≤ (j : Int) + 1
theorem Lay.far {N t0 : Nat} {far : Nat → Int} (l : Lay n ok nx N t0 far N 0 0) (hnx : ∀ s d, s < N → d < n → nx s d < N) (inv : ∀ s d, s < N → d < n → nx (nx s d) d = s) : Far n ok nx N t0 far where
  a := l.a
  c := l.c
  nx := hnx
  b := by
    intro s p
    induction p generalizing s with
    | nil =>
      intro hs _ _ hp
      cases hp
      rw [l.root]
      simp
    | cons d p ih =>
      intro hs hl hok hp
      obtain ⟨h1, h2, h3⟩ := hp
      simp only [List.length_cons] at hl
      have hn := hnx s d hs h1
      obtain ⟨i1, i2⟩ := ih (nx s d) hn (by omega) h2 h3
      obtain ⟨j, hj⟩ : ∃ j : Nat, far (nx s d) = (j : Int) := ⟨(far (nx s d)).toNat, by omega⟩
      have := l.dn (nx s d) d j hn h1 hj (.inl (by omega)) (by rw [inv s d hs h1]; exact hok)
      rw [inv s d hs h1] at this
      simp only [List.length_cons]
      omega
theorem Lay.step {N t0 stp : Nat} {far : Nat → Int} (l : Lay n ok nx N t0 far stp N 0) : Lay n ok nx N t0 far (stp + 1) 0 0 where
  a := l.a
  c := l.c
  lo := fun s hs => ⟨(l.lo s hs).1, by have := (l.lo s hs).2; omega⟩
  root := l.root
  dn := fun s d j hs hd hj hc ho => l.dn s d j hs hd hj (by omega) ho
theorem Lay.pass {N t0 stp bits : Nat} {far : Nat → Int} (l : Lay n ok nx N t0 far stp bits 0) (h : far bits ≠ (stp : Int)) : Lay n ok nx N t0 far stp (bits + 1) 0 where
  a := l.a
  c := l.c
  lo := l.lo
  root := l.root
  dn := fun s d j hs hd hj hc ho => l.dn s d j hs hd hj (by
    rcases hc with q | ⟨q, r⟩
    · exact .inl q
    · refine .inr ⟨q, .inl ?_⟩
      have : s ≠ bits := by intro e; subst e; exact h (by rw [hj, q])
      omega) ho
theorem Lay.done {N t0 stp bits : Nat} {far : Nat → Int} (l : Lay n ok nx N t0 far stp bits n) : Lay n ok nx N t0 far stp (bits + 1) 0 where
  a := l.a
  c := l.c
  lo := l.lo
  root := l.root
  dn := fun s d j hs hd hj hc ho => l.dn s d j hs hd hj (by omega) ho
theorem Lay.old {N t0 stp bits i0 : Nat} {far : Nat → Int} (l : Lay n ok nx N t0 far stp bits i0) (hb : bits < N) (hf : far bits = (stp : Int)) (h : ok (nx bits i0) = true → 0 ≤ far (nx bits i0)) (hnx : nx bits i0 < N) : Lay n ok nx N t0 far stp bits (i0 + 1) where
  a := l.a
  c := l.c
  lo := l.lo
  root := l.root
  dn := by
    intro s d j hs hd hj hc ho
    by_cases e : j = stp ∧ s = bits ∧ d = i0
    · obtain ⟨rfl, rfl, rfl⟩ := e
      exact ⟨h ho, (l.lo _ hnx).2⟩
    · exact l.dn s d j hs hd hj (by omega) ho
theorem Lay.new {N t0 stp bits i0 : Nat} {far : Nat → Int} (l : Lay n ok nx N t0 far stp bits i0) (hb : bits < N) (hi : i0 < n) (hf : far bits = (stp : Int)) (h : ok (nx bits i0) = true) (hx : far (nx bits i0) < 0) (inv : nx (nx bits i0) i0 = bits) :
    Lay n ok nx N t0 (fun s => if s = nx bits i0 then (stp : Int) + 1 else far s) stp bits (i0 + 1) where
  a := by
    intro s k hs e
    by_cases q : s = nx bits i0
    · subst q
      rw [if_pos rfl] at e
      obtain ⟨p, hp, hp2⟩ := l.a bits stp hb hf
      exact ⟨i0 :: p, by simp; omega, hi, by rw [inv]; exact l.c _ hb (by omega), by rw [inv]; exact hp2⟩
    · rw [if_neg q] at e
      exact l.a s k hs e
  c := by
    intro s hs e
    by_cases q : s = nx bits i0
    · subst q; exact h
    · rw [if_neg q] at e; exact l.c s hs e
  lo := by
    intro s hs
    by_cases q : s = nx bits i0
    · rw [if_pos q]; omega
    · rw [if_neg q]; exact l.lo s hs
  root := by
    by_cases q : t0 = nx bits i0
    · rw [← q, l.root] at hx; omega
    · rw [if_neg q]; exact l.root
  dn := by
    intro s d j hs hd hj hc ho
    by_cases q : s = nx bits i0
    · rw [if_pos q] at hj; omega
    · rw [if_neg q] at hj
      by_cases e : j = stp ∧ s = bits ∧ d = i0
      · obtain ⟨rfl, rfl, rfl⟩ := e
        rw [if_pos rfl]; omega
      · have := l.dn s d j hs hd hj (by omega) ho
        by_cases q2 : nx s d = nx bits i0
        · rw [q2] at this; omega
        · rw [if_neg q2]; exact this
end
section
variable {n : Nat} {ok : Nat → Bool}
/-- A door is moved. -/
def mvx (s d : Nat) : Nat := s ^^^ 2 ^ d
theorem mvx_mvx (s d : Nat) : mvx (mvx s d) d = s := by unfold mvx; rw [Nat.xor_assoc, Nat.xor_self, Nat.xor_zero]
theorem mvx_lt {s d : Nat} (h : s < 2 ^ n) (hd : d < n) : mvx s d < 2 ^ n := Nat.xor_lt_two_pow h (Nat.pow_lt_pow_right (by omega) hd)
theorem low_bit {s i : Nat} (h : s.testBit i = true) : mvx (s % 2 ^ (i + 1)) i = s % 2 ^ i := by
  apply Nat.eq_of_testBit_eq
  intro j
  simp only [mvx, Nat.testBit_xor, Nat.testBit_mod_two_pow, Nat.testBit_two_pow]
  rcases Nat.lt_trichotomy j i with q | rfl | q
  · have e1 : decide (j < i + 1) = true := decide_eq_true (by omega)
    have e2 : decide (i = j) = false := decide_eq_false (by omega)
    have e3 : decide (j < i) = true := decide_eq_true q
    rw [e1, e2, e3]; simp
  · simp [h]
  · have e1 : decide (j < i + 1) = false := decide_eq_false (by omega)
    have e2 : decide (i = j) = false := decide_eq_false (by omega)
    have e3 : decide (j < i) = false := decide_eq_false (by omega)
    rw [e1, e2, e3]; simp
theorem low_same {s i : Nat} (h : s.testBit i = false) : s % 2 ^ (i + 1) = s % 2 ^ i := by
  apply Nat.eq_of_testBit_eq
  intro j
  simp only [Nat.testBit_mod_two_pow]
  rcases Nat.lt_trichotomy j i with q | rfl | q
  · have e1 : decide (j < i + 1) = true := decide_eq_true (by omega)
    have e3 : decide (j < i) = true := decide_eq_true q
    rw [e1, e3]
  · simp [h]
  · have e1 : decide (j < i + 1) = false := decide_eq_false (by omega)
    have e3 : decide (j < i) = false := decide_eq_false (by omega)
    rw [e1, e3]
theorem shut_path (hm : ∀ s i, ok s = true → ok (s % 2 ^ i) = true) {s : Nat} (hs : ok s = true) : ∀ i, i ≤ n → ∃ p, p.length ≤ i ∧ Pth n ok mvx (s % 2 ^ i) p 0
  | 0, _ => ⟨[], by simp, by simp [Pth, Nat.mod_one]⟩
  | i + 1, hi => by
    obtain ⟨p, hp, hp2⟩ := shut_path hm hs i (by omega)
    cases e : s.testBit i with
    | true => exact ⟨i :: p, by simp; omega, by omega, by rw [low_bit e]; exact hm s i hs, by rw [low_bit e]; exact hp2⟩
    | false => exact ⟨p, by omega, by rw [low_same e]; exact hp2⟩
theorem open_path (hm : ∀ s i, ok s = true → ok (s % 2 ^ i) = true) {s : Nat} (hs : ok s = true) : ∀ i, i ≤ n → ∃ p, p.length ≤ i ∧ Pth n ok mvx 0 p (s % 2 ^ i)
  | 0, _ => ⟨[], by simp, by simp [Pth, Nat.mod_one]⟩
  | i + 1, hi => by
    obtain ⟨p, hp, hp2⟩ := open_path hm hs i (by omega)
    cases e : s.testBit i with
    | true =>
      have e2 : mvx (s % 2 ^ i) i = s % 2 ^ (i + 1) := by rw [← low_bit e, mvx_mvx]
      exact ⟨p ++ [i], by simp; omega, (pth_snoc n ok mvx).2 ⟨_, hp2, by omega, by rw [e2]; exact hm s _ hs, e2⟩⟩
    | false => exact ⟨p, by omega, by rw [low_same e]; exact hp2⟩
theorem some_path (hm : ∀ s i, ok s = true → ok (s % 2 ^ i) = true) {s t : Nat} (hs : s < 2 ^ n) (ht : t < 2 ^ n) (os : ok s = true) (ot : ok t = true) : ∃ p, p.length ≤ 2 * n ∧ Pth n ok mvx s p t := by
  obtain ⟨p, hp, hp2⟩ := shut_path (n := n) hm os n (Nat.le_refl _)
  obtain ⟨q, hq, hq2⟩ := open_path (n := n) hm ot n (Nat.le_refl _)
  rw [Nat.mod_eq_of_lt hs] at hp2
  rw [Nat.mod_eq_of_lt ht] at hq2
  exact ⟨p ++ q, by simp; omega, pth_app n ok mvx hp2 hq2⟩
theorem two_le (n : Nat) : 2 * n ≤ 2 ^ n := by
  match n with
  | 0 => simp
  | 1 => simp
  | n + 2 =>
    have : ∀ m, 2 * (m + 2) ≤ 2 ^ (m + 2) := by
      intro m
      induction m with
      | zero => simp
      | succ m ih =>
        rw [Nat.pow_succ]
        omega
    exact this n
/-- There is a number of moves, and what the search finds is the greedy list. -/
theorem Far.moves (hm : ∀ s i, ok s = true → ok (s % 2 ^ i) = true) {s t : Nat} (hs : s < 2 ^ n) (ht : t < 2 ^ n) (os : ok s = true) (ot : ok t = true) {far : Nat → Int} (f : Far n ok mvx (2 ^ n) t far) :
    ∃ k : Nat, k ≤ 2 * n ∧ far s = (k : Int) ∧ ∀ (E : List (Nat × List Nat)) (h : Nat), Bfs n ok mvx s E h 0 → E.length ≤ h → (t, gr n mvx far k s) ∈ E := by
  obtain ⟨p, hp, hp2⟩ := some_path hm hs ht os ot
  obtain ⟨b1, b2⟩ := f.b s p hs (Nat.le_trans hp (two_le n)) os hp2
  obtain ⟨k, hk⟩ : ∃ k : Nat, far s = (k : Int) := ⟨(far s).toNat, by omega⟩
  exact ⟨k, by omega, hk, fun E h b hh => f.same b hh hs (by have := two_le n; omega) hk⟩
theorem Lay.start {N t0 : Nat} {nx : Nat → Nat → Nat} (ot : ok t0 = true) : Lay n ok nx N t0 (fun s => if s = t0 then 0 else -1) 0 0 0 where
  a := by
    intro s k _ e
    by_cases q : s = t0
    · subst q
      rw [if_pos rfl] at e
      exact ⟨[], by simp; omega, rfl⟩
    · rw [if_neg q] at e; omega
  c := by
    intro s _ e
    by_cases q : s = t0
    · subst q; exact ot
    · rw [if_neg q] at e; omega
  lo := by
    intro s _
    by_cases q : s = t0
    · rw [if_pos q]; omega
    · rw [if_neg q]; omega
  root := by simp
  dn := by
    intro s d j _ _ _ h
    omega
end
end Go.Proofs.Ythbofhlfggkolaa
