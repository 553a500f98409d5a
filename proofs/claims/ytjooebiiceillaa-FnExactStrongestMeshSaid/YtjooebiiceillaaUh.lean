/-
  Distances in a network, and the first one of the shortest walks: pure. Conditions: those that each theorem states.
-/
import Derived.Test.YtjooebiiceillaaUg
namespace Go.Proofs.Ytjooebiiceillaa
set_option linter.unusedVariables false

/-- How many of the numbers below n have a level. -/
def cnt (D : Int → Int) : Nat → Nat
  | 0 => 0
  | n + 1 => cnt D n + (if 0 ≤ D (n : Int) then 1 else 0)
theorem cnt_le (D : Int → Int) : ∀ n, cnt D n ≤ n
  | 0 => Nat.le_refl _
  | n + 1 => by have := cnt_le D n; rw [cnt]; split <;> omega
theorem cnt_mono {D D' : Int → Int} (h : ∀ j, 0 ≤ D j → 0 ≤ D' j) : ∀ n, cnt D n ≤ cnt D' n
  | 0 => Nat.le_refl _
  | n + 1 => by
    have := cnt_mono h n
    have := h (n : Int)
    rw [cnt, cnt]
    split <;> split <;> first | omega | (exfalso; omega)
theorem cnt_lt {D D' : Int → Int} (h : ∀ j, 0 ≤ D j → 0 ≤ D' j) {x : Int} (hx : D x < 0) (hx' : 0 ≤ D' x) (h0 : 0 ≤ x) : ∀ n : Nat, x < (n : Int) → cnt D n < cnt D' n
  | 0, hn => by omega
  | n + 1, hn => by
    rw [cnt, cnt]
    by_cases e : x = (n : Int)
    · subst e
      have := cnt_mono h n
      rw [if_neg (by omega), if_pos hx']; omega
    · have := cnt_lt h hx hx' h0 n (by omega)
      have := h (n : Int)
      split <;> split <;> first | omega | (exfalso; omega)
theorem cnt_congr {D D' : Int → Int} : ∀ {n : Nat}, (∀ j : Int, 0 ≤ j → j < (n : Int) → D j = D' j) → cnt D n = cnt D' n
  | 0, _ => rfl
  | n + 1, h => by
    rw [cnt, cnt, cnt_congr (fun j h1 h2 => h j h1 (by omega)), h (n : Int) (by omega) (by omega)]
theorem cnt_put {D : Int → Int} {x v : Int} (hx : D x < 0) (h0 : 0 ≤ x) (hv : 0 ≤ v) : ∀ n : Nat, x < (n : Int) → cnt (fun j => if j = x then v else D j) n = cnt D n + 1
  | 0, hn => by omega
  | n + 1, hn => by
    rw [cnt, cnt]
    by_cases e : x = (n : Int)
    · have e0 : cnt (fun j => if j = x then v else D j) n = cnt D n := cnt_congr (fun j h1 h2 => if_neg (by omega))
      have e1 : (if (n : Int) = x then v else D (n : Int)) = v := if_pos e.symm
      simp only [e0, e1]
      have e2 : ¬ 0 ≤ D (n : Int) := by rw [← e]; omega
      rw [if_pos hv, if_neg e2]
    · have e0 := cnt_put hx h0 hv n (by omega)
      have e1 : (if (n : Int) = x then v else D (n : Int)) = D (n : Int) := if_neg (by omega)
      simp only [e0, e1]
      omega
/-- Next to one another. -/
def adj (E : List (Int × Int)) (x y : Int) : Prop := (x, y) ∈ E ∨ (y, x) ∈ E
theorem adj_symm {E : List (Int × Int)} {x y : Int} (h : adj E x y) : adj E y x := h.symm
/-- D tells how many airways lie between each junction and one; -1 if none lead there. -/
structure Dist (E : List (Int × Int)) (to : Int) (D : Int → Int) : Prop where
  ge : ∀ j, -1 ≤ D j
  zero : D to = 0
  near : ∀ x y, adj E x y → 0 ≤ D x → 0 ≤ D y ∧ D y ≤ D x + 1
  from_ : ∀ j, j ≠ to → 0 ≤ D j → ∃ i, adj E i j ∧ 0 ≤ D i ∧ D j = D i + 1
theorem Dist.le {E : List (Int × Int)} {to : Int} {D D' : Int → Int} (h : Dist E to D) (h' : Dist E to D') : ∀ (n : Nat) (j : Int), D j = (n : Int) → 0 ≤ D' j ∧ D' j ≤ D j
  | 0, j, e => by
    by_cases q : j = to
    · subst q; have := h'.zero; omega
    · obtain ⟨i, _, h1, h2⟩ := h.from_ j q (by omega); omega
  | n + 1, j, e => by
    by_cases q : j = to
    · subst q; have := h'.zero; omega
    · obtain ⟨i, ha, h1, h2⟩ := h.from_ j q (by omega)
      obtain ⟨a, b⟩ := Dist.le h h' n i (by omega)
      have := h'.near i j ha a
      omega
theorem Dist.uniq {E : List (Int × Int)} {to : Int} {D D' : Int → Int} (h : Dist E to D) (h' : Dist E to D') : D = D' := by
  funext j
  have g := h.ge j
  have g' := h'.ge j
  by_cases c : 0 ≤ D j
  · have := h.le h' (D j).toNat j (by omega)
    have := h'.le h (D' j).toNat j (by omega)
    omega
  · by_cases c' : 0 ≤ D' j
    · have := h'.le h (D' j).toNat j (by omega)
      omega
    · omega
theorem Dist.eq_to {E : List (Int × Int)} {to : Int} {D : Int → Int} (h : Dist E to D) {j : Int} (hj : D j = 0) : j = to := by
  by_cases q : j = to
  · exact q
  · obtain ⟨i, _, h1, h2⟩ := h.from_ j q (by omega); omega
theorem any1_iff {lv : Int → Int} {s : Int} {E : List (Int × Int)} {j : Int} : any1 lv s E j = true ↔ ∃ i, adj E i j ∧ lv i = s := by
  unfold any1 adj
  rw [List.any_eq_true]
  constructor
  · rintro ⟨⟨a, b⟩, he, h⟩
    rcases of_decide_eq_true h with ⟨h1, h2⟩ | ⟨h1, h2⟩
    · simp only at h1 h2; subst h1; exact ⟨b, Or.inr he, h2⟩
    · simp only at h1 h2; subst h1; exact ⟨a, Or.inl he, h2⟩
  · rintro ⟨i, he | he, h⟩
    · exact ⟨(i, j), he, decide_eq_true (Or.inr ⟨rfl, h⟩)⟩
    · exact ⟨(j, i), he, decide_eq_true (Or.inl ⟨rfl, h⟩)⟩
theorem lev_keep {E : List (Int × Int)} {to : Int} {s : Nat} {j : Int} (h : 0 ≤ lev E to s j) : lev E to (s + 1) j = lev E to s j := by
  rw [lev, part, if_pos h]
theorem lev_keeps {E : List (Int × Int)} {to : Int} {s : Nat} {j : Int} (h : 0 ≤ lev E to s j) : ∀ n, s ≤ n → lev E to n j = lev E to s j := by
  intro n hn
  induction n with
  | zero => obtain rfl : s = 0 := by omega
            rfl
  | succ n ih =>
    by_cases e : s = n + 1
    · rw [e]
    · have := ih (by omega)
      rw [lev_keep (by omega), this]
theorem lev_at {E : List (Int × Int)} {to : Int} : ∀ {s : Nat} {j : Int}, 0 ≤ lev E to s j → lev E to (lev E to s j).toNat j = lev E to s j
  | 0, j, h => by
    have := lev_ge E to 0 j
    rw [show (lev E to 0 j).toNat = 0 by omega]
  | s + 1, j, h => by
    by_cases c : 0 ≤ lev E to s j
    · rw [lev_keep c]; exact lev_at c
    · have e : lev E to (s + 1) j = (s : Int) + 1 := by
        rw [lev, part, if_neg c] at h ⊢
        split at h
        · rename_i hh; rw [if_pos hh]
        · omega
      rw [show (lev E to (s + 1) j).toNat = s + 1 by omega]
theorem lev_from {E : List (Int × Int)} {to : Int} : ∀ {s : Nat} {j : Int}, j ≠ to → 0 ≤ lev E to s j → ∃ i, adj E i j ∧ 0 ≤ lev E to s i ∧ lev E to s j = lev E to s i + 1
  | 0, j, hj, h => by simp only [lev, if_neg hj] at h; omega
  | s + 1, j, hj, h => by
    by_cases c : 0 ≤ lev E to s j
    · obtain ⟨i, ha, h1, h2⟩ := lev_from hj c
      exact ⟨i, ha, by rw [lev_keep h1]; exact h1, by rw [lev_keep h1, lev_keep c]; exact h2⟩
    · have hh : any1 (lev E to s) s E j = true := by
        rw [lev, part, if_neg c] at h
        split at h
        · assumption
        · omega
      obtain ⟨i, ha, h1⟩ := any1_iff.1 hh
      refine ⟨i, ha, by rw [lev_keep (by omega)]; omega, ?_⟩
      rw [lev_keep (show 0 ≤ lev E to s i by omega), h1, lev, part, if_neg c, if_pos hh]
theorem lev_cnt {E : List (Int × Int)} {to : Int} {J : Nat} (hE : ∀ e ∈ E, (0 ≤ e.1 ∧ e.1 < (J : Int)) ∧ (0 ≤ e.2 ∧ e.2 < (J : Int))) (ht : 0 ≤ to ∧ to < (J : Int)) : ∀ (s : Nat) (j : Int), lev E to s j = (s : Int) → s + 1 ≤ cnt (lev E to s) J
  | 0, j, h => by
    have := cnt_lt (D := fun _ => -1) (D' := lev E to 0) (fun j h => by simp at h) (x := to) (by omega) (by simp [lev]) ht.1 J ht.2
    omega
  | s + 1, j, h => by
    have c : lev E to s j < 0 := by
      have := lev_ge E to s j
      apply Int.not_le.1
      intro q
      rw [lev_keep q] at h
      omega
    have hh : any1 (lev E to s) s E j = true := by
      rw [lev, part, if_neg (by omega)] at h
      split at h
      · assumption
      · omega
    obtain ⟨i, ha, h1⟩ := any1_iff.1 hh
    have ih := lev_cnt hE ht s i h1
    have hj : 0 ≤ j ∧ j < (J : Int) := by
      rcases ha with q | q
      · exact (hE _ q).2
      · exact (hE _ q).1
    have := cnt_lt (D := lev E to s) (D' := lev E to (s + 1)) (fun j h => by rw [lev_keep h]; exact h) c (by omega) hj.1 J hj.2
    omega
/-- What the model finds by J passes. -/
theorem lev_dist {E : List (Int × Int)} {to : Int} {J : Nat} (hE : ∀ e ∈ E, (0 ≤ e.1 ∧ e.1 < (J : Int)) ∧ (0 ≤ e.2 ∧ e.2 < (J : Int))) (ht : 0 ≤ to ∧ to < (J : Int)) : Dist E to (lev E to J) where
  ge j := (lev_ge E to J j).1
  zero := by rw [lev_keeps (s := 0) (by simp [lev]) J (Nat.zero_le _)]; simp [lev]
  near x y ha hx := by
    have e := lev_at hx
    have hb := lev_ge E to J x
    generalize hd : (lev E to J x).toNat = d at e
    have hdx : lev E to J x = (d : Int) := by omega
    have hc := lev_cnt hE ht d x (by omega)
    have := cnt_le (lev E to d) J
    have hy : 0 ≤ lev E to (d + 1) y := by
      rw [lev, part]
      split
      · assumption
      · rw [if_pos (any1_iff.2 ⟨x, ha, by omega⟩)]; omega
    have h2 := lev_ge E to (d + 1) y
    rw [lev_keeps hy J (by omega)]
    omega
  from_ j hj h := lev_from hj h
/-- Whether an airway leads one nearer: along (true), against (false). -/
def hit (D : Int → Int) (a : Int) (e : Int × Int) : Option Bool := if e.1 = a ∧ D e.2 = D a - 1 then some true else if e.2 = a ∧ D e.1 = D a - 1 then some false else none
/-- The first airway of a list that leads one nearer. -/
def stp (en : Int → Int × Int) (D : Int → Int) (a : Int) : List Int → Option (Int × Bool)
  | [] => none
  | k :: ks => match hit D a (en k) with
    | some b => some (k, b)
    | none => stp en D a ks
def sgnZ (k : Int) (b : Bool) : Int := if b then k + 1 else -k - 1
def endZ (en : Int → Int × Int) (k : Int) (b : Bool) : Int := if b then (en k).2 else (en k).1
/-- The walk of n steps. -/
def pathN (en : Int → Int × Int) (D : Int → Int) (L : List Int) : Nat → Int → List Int
  | 0, _ => []
  | n + 1, a => match stp en D a L with
    | some (k, b) => sgnZ k b :: pathN en D L n (endZ en k b)
    | none => []
theorem pathN_len (en : Int → Int × Int) (D : Int → Int) (L : List Int) : ∀ (n : Nat) (a : Int), (pathN en D L n a).length ≤ n
  | 0, _ => Nat.le_refl _
  | n + 1, a => by
    rw [pathN]
    split
    · have := pathN_len en D L n
      rw [List.length_cons]
      rename_i k b _
      have := this (endZ en k b)
      omega
    · simp
theorem pathN_step {en : Int → Int × Int} {D : Int → Int} {L : List Int} {n : Nat} {a k : Int} {b : Bool} (h : stp en D a L = some (k, b)) : pathN en D L (n + 1) a = sgnZ k b :: pathN en D L n (endZ en k b) := by
  rw [pathN, h]
theorem stp_hit {en : Int → Int × Int} {D : Int → Int} {a k : Int} {b : Bool} {ks : List Int} (h : hit D a (en k) = some b) : stp en D a (k :: ks) = some (k, b) := by rw [stp, h]
theorem stp_miss {en : Int → Int × Int} {D : Int → Int} {a k : Int} {ks : List Int} (h : hit D a (en k) = none) : stp en D a (k :: ks) = stp en D a ks := by rw [stp, h]
theorem stp_spec {en : Int → Int × Int} {D : Int → Int} {a : Int} : ∀ {L : List Int} {k : Int} {b : Bool}, stp en D a L = some (k, b) → k ∈ L ∧ hit D a (en k) = some b
  | [], k, b, h => by cases h
  | j :: js, k, b, h => by
    rw [stp] at h
    split at h
    · rename_i b' hb
      injection h with h
      injection h with h1 h2
      subst h1 h2
      exact ⟨List.mem_cons_self, hb⟩
    · have := stp_spec h
      exact ⟨List.mem_cons_of_mem _ this.1, this.2⟩
theorem stp_none {en : Int → Int × Int} {D : Int → Int} {a : Int} : ∀ {L : List Int}, stp en D a L = none → ∀ k ∈ L, hit D a (en k) = none
  | [], _, k, hk => by cases hk
  | j :: js, h, k, hk => by
    rw [stp] at h
    split at h
    · cases h
    · rename_i hj
      rcases List.mem_cons.1 hk with rfl | hk
      · exact hj
      · exact stp_none h k hk
theorem stp_append (en : Int → Int × Int) (D : Int → Int) (a : Int) : ∀ (L M : List Int), stp en D a (L ++ M) = match stp en D a L with | some x => some x | none => stp en D a M
  | [], M => rfl
  | k :: ks, M => by
    rw [List.cons_append, stp, stp]
    split
    · rfl
    · exact stp_append en D a ks M
/-- A junction that is not the end has an airway that leads nearer. -/
theorem stp_some {en : Int → Int × Int} {D : Int → Int} {L : List Int} {to a : Int} {n : Nat} (hD : Dist (L.map en) to D) (ha : D a = (n : Int) + 1) : ∃ k b, stp en D a L = some (k, b) ∧ k ∈ L ∧ hit D a (en k) = some b ∧ D (endZ en k b) = (n : Int) := by
  have hne : a ≠ to := fun e => by subst e; have := hD.zero; omega
  obtain ⟨i, hadj, h0, h1⟩ := hD.from_ a hne (by omega)
  cases h : stp en D a L with
  | none =>
    exfalso
    have hn := stp_none h
    rcases hadj with q | q
    · obtain ⟨k, hk, e⟩ := List.mem_map.1 q
      have := hn k hk
      unfold hit at this
      rw [e] at this
      split at this
      · cases this
      · rw [if_pos ⟨rfl, by simp only; omega⟩] at this; cases this
    · obtain ⟨k, hk, e⟩ := List.mem_map.1 q
      have := hn k hk
      unfold hit at this
      rw [e, if_pos ⟨rfl, by simp only; omega⟩] at this
      cases this
  | some x =>
    obtain ⟨k, b⟩ := x
    obtain ⟨hk, hb⟩ := stp_spec h
    refine ⟨k, b, rfl, hk, hb, ?_⟩
    unfold hit at hb
    unfold endZ
    split at hb
    · rename_i hc
      injection hb with hb
      subst hb
      rw [if_pos rfl]
      omega
    · split at hb
      · rename_i hc
        injection hb with hb
        subst hb
        rw [if_neg (by simp)]
        omega
      · cases hb
/-- Of a list, those whose ends are a junction are enough. -/
theorem stp_filter (en : Int → Int × Int) (D : Int → Int) (a : Int) : ∀ L : List Int, stp en D a (L.filter (fun k => decide ((en k).1 = a) || decide ((en k).2 = a))) = stp en D a L
  | [] => rfl
  | k :: ks => by
    rw [List.filter_cons]
    split
    · rw [stp, stp, stp_filter en D a ks]
    · rename_i h
      have hm : hit D a (en k) = none := by
        simp only [Bool.or_eq_true, decide_eq_true_eq, not_or] at h
        unfold hit
        rw [if_neg (fun q => h.1 q.1), if_neg (fun q => h.2 q.1)]
      rw [stp_miss hm, stp_filter en D a ks]
/-- The program's question: is the other end nearer? -/
theorem hit_near {E : List (Int × Int)} {to a : Int} {D : Int → Int} (hD : Dist E to D) {e : Int × Int} (he : e ∈ E) (ha : 0 ≤ D a) (hne : e.1 ≠ e.2) : (e.1 = a → (0 ≤ D e.2 ∧ hit D a e = if D e.2 < D a then some true else none)) ∧ (e.2 = a → (0 ≤ D e.1 ∧ hit D a e = if D e.1 < D a then some false else none)) := by
  obtain ⟨x, y⟩ := e
  simp only at hne ⊢
  refine ⟨fun h => ?_, fun h => ?_⟩
  · subst h
    have h1 := hD.near x y (Or.inl he) ha
    have h2 := hD.near y x (Or.inr he) h1.1
    refine ⟨h1.1, ?_⟩
    unfold hit
    by_cases q : D y < D x
    · rw [if_pos ⟨rfl, by simp only; omega⟩, if_pos q]
    · rw [if_neg (fun hh => by simp only at hh; omega), if_neg (fun hh => hne hh.1.symm), if_neg q]
  · subst h
    have h1 := hD.near y x (Or.inr he) ha
    have h2 := hD.near x y (Or.inl he) h1.1
    refine ⟨h1.1, ?_⟩
    unfold hit
    by_cases q : D x < D y
    · rw [if_neg (fun hh => hne hh.1), if_pos ⟨rfl, by simp only; omega⟩, if_pos q]
    · rw [if_neg (fun hh => hne hh.1), if_neg (fun hh => by simp only at hh; omega), if_neg q]
end Go.Proofs.Ytjooebiiceillaa
