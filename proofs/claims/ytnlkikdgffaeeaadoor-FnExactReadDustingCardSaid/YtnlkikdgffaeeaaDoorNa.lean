/-
  Plain mathematics of numbers in decimal: which texts are read as which number. Conditions: those that each theorem states.
-/
import Derived.Lib.ParseIntBTie
import Derived.Lib.ItoaMem
namespace Go.Proofs.YtnlkikdgffaeeaaDoor
set_option linter.unusedVariables false

def dgv (c : UInt8) : Nat := c.toNat - 48
theorem dgv_eq (c : UInt8) : dgv c = c.toNat - 48 := rfl
attribute [irreducible] dgv
/-- The value of digits, onto acc. -/
def valD (acc : Nat) : List UInt8 → Nat
  | [] => acc
  | c :: r => valD (acc * 10 + dgv c) r
def isDg (c : UInt8) : Bool := decide (48 ≤ c.toNat) && decide (c.toNat ≤ 57)
theorem isDg_iff {c : UInt8} : isDg c = true ↔ 48 ≤ c.toNat ∧ c.toNat ≤ 57 := by simp [isDg]
/-- At most 18 digits, one at least. -/
def magOf (l : List UInt8) : Option Nat := if l ≠ [] ∧ l.length ≤ 18 ∧ l.all isDg = true then some (valD 0 l) else none
/-- The number that a text is the decimal form of. -/
def numOf (l : List UInt8) : Option Int :=
  match l with
  | [] => none
  | c :: r =>
    if c = 45 then (if r.head? = some 48 then none else (magOf r).map fun (u : Nat) => -(u : Int))
    else if c = 48 ∧ r ≠ [] then none else (magOf (c :: r)).map fun (u : Nat) => (u : Int)
def numV (l : List UInt8) : Int := (numOf l).getD 0
def numB (l : List UInt8) : Bool := (numOf l).isSome
/-- Without a sign in front. -/
def trimS : List UInt8 → List UInt8
  | [] => []
  | c :: r => if c = 45 then r else c :: r

theorem valD_snoc : ∀ (l : List UInt8) (acc : Nat) (c : UInt8), valD acc (l ++ [c]) = valD acc l * 10 + dgv c
  | [], acc, c => rfl
  | d :: l, acc, c => by simp only [List.cons_append, valD]; exact valD_snoc l _ c
theorem dgv_le {c : UInt8} (h : isDg c = true) : dgv c ≤ 9 := by rw [isDg_iff] at h; rw [dgv_eq]; omega
theorem valD_lt : ∀ (l : List UInt8) (acc : Nat), l.all isDg = true → valD acc l + 1 ≤ (acc + 1) * 10 ^ l.length
  | [], acc, _ => by simp [valD]
  | c :: l, acc, h => by
    rw [List.all_cons, Bool.and_eq_true] at h
    have hd := dgv_le h.1
    have ih := valD_lt l (acc * 10 + dgv c) h.2
    simp only [valD, List.length_cons, Nat.pow_succ]
    refine Nat.le_trans ih ?_
    rw [Nat.mul_comm (10 ^ l.length) 10, ← Nat.mul_assoc]
    exact Nat.mul_le_mul_right _ (by omega)
theorem valD_ge : ∀ (l : List UInt8) (acc : Nat), acc ≤ valD acc l
  | [], acc => Nat.le_refl _
  | c :: l, acc => by
    have ih := valD_ge l (acc * 10 + dgv c)
    simp only [valD]
    omega
theorem parseM_ok : ∀ (l : List UInt8) (acc : Nat), l.all isDg = true → (acc + 1) * 10 ^ l.length ≤ 1000000000000000000 → Lib.parseUintM 18446744073709551615 acc l = .ok (valD acc l)
  | [], acc, _, _ => rfl
  | c :: l, acc, h, hb => by
    rw [List.all_cons, Bool.and_eq_true] at h
    have hd := dgv_le h.1
    have hi := isDg_iff.1 h.1
    have e : (acc + 1) * 10 ^ (l.length + 1) = ((acc + 1) * 10) * 10 ^ l.length := by rw [Nat.pow_succ, Nat.mul_comm (10 ^ l.length) 10, ← Nat.mul_assoc]
    rw [List.length_cons, e] at hb
    have p : 0 < 10 ^ l.length := Nat.pow_pos (by omega)
    have hb1 : (acc + 1) * 10 ≤ 1000000000000000000 := Nat.le_trans (Nat.le_mul_of_pos_right _ p) hb
    have ih := parseM_ok l (acc * 10 + dgv c) h.2 (Nat.le_trans (Nat.mul_le_mul_right _ (by omega)) hb)
    simp only [Lib.parseUintM, valD]
    rw [if_pos hi, if_neg (by omega), ← dgv_eq, if_neg (by omega), ih]
theorem parseB_ok {l : List UInt8} {u : Nat} (h : magOf l = some u) : Lib.parseUintB 64 l = .ok u ∧ u < 1000000000000000000 := by
  unfold magOf at h
  split at h
  · rename_i hh
    obtain ⟨h0, h1, h2⟩ := hh
    injection h with h
    subst h
    have hp : 10 ^ l.length ≤ 10 ^ 18 := Nat.pow_le_pow_right (by omega) h1
    rw [show (10 : Nat) ^ 18 = 1000000000000000000 from rfl] at hp
    have hv := valD_lt l 0 h2
    rw [Nat.zero_add, Nat.one_mul] at hv
    refine ⟨?_, by omega⟩
    unfold Lib.parseUintB
    rw [if_neg h0]
    exact parseM_ok l 0 h2 (by rw [Nat.zero_add, Nat.one_mul]; exact hp)
  · cases h
theorem ofNat_dg {c : UInt8} (h : isDg c = true) : UInt8.ofNat (48 + dgv c) = c := by
  rw [isDg_iff] at h
  rw [dgv_eq, show 48 + (c.toNat - 48) = c.toNat by omega, UInt8.ofNat_toNat]
theorem dec_of_val : ∀ (n : Nat) (l : List UInt8), l.length = n → l ≠ [] → l.all isDg = true → (l.head? = some 48 → l.length = 1) → Lib.decDigits (valD 0 l) = l
  | 0, l, hn, h0, _, _ => absurd (List.eq_nil_of_length_eq_zero hn) h0
  | n + 1, l, hn, h0, hd, hz => by
    obtain ⟨b, c, rfl⟩ : ∃ b c, l = b ++ [c] := ⟨l.dropLast, l.getLast h0, (List.dropLast_concat_getLast h0).symm⟩
    simp only [List.all_append, List.all_cons, List.all_nil, Bool.and_true, Bool.and_eq_true] at hd
    have hc := dgv_le hd.2
    rw [valD_snoc, Lib.decDigits]
    by_cases hb : b = []
    · subst hb
      simp only [valD, Nat.zero_mul, Nat.zero_add, List.nil_append]
      rw [dif_pos (by omega), ofNat_dg hd.2]
    · have hl : b.length = n := by simpa using hn
      have hbl : 1 ≤ b.length := List.length_pos_iff.2 hb
      have hz' : b.head? = some 48 → b.length = 1 := fun e => by
        exfalso
        have := hz (by rw [List.head?_append, e]; rfl)
        simp at this; exact hb this
      have hne : b.head? ≠ some 48 := fun e => by
        have := hz (by rw [List.head?_append, e]; rfl)
        simp at this; exact hb this
      have ih := dec_of_val n b hl hb hd.1 hz'
      have hpos : 1 ≤ valD 0 b := by
        cases b with
        | nil => exact absurd rfl hb
        | cons d r =>
          simp only [List.all_cons, Bool.and_eq_true, isDg_iff] at hd
          simp only [valD]
          have h48 : d.toNat ≠ 48 := fun e => hne (by simp only [List.head?_cons]; exact congrArg some (UInt8.toNat_inj.1 e))
          have := valD_ge r (0 * 10 + dgv d)
          have e := dgv_eq d
          omega
      rw [dif_neg (by omega), show (valD 0 b * 10 + dgv c) / 10 = valD 0 b by omega, ih, show (valD 0 b * 10 + dgv c) % 10 = dgv c by omega, ofNat_dg hd.2]
theorem dec_facts : ∀ u : Nat, Lib.decDigits u ≠ [] ∧ (Lib.decDigits u).all isDg = true ∧ valD 0 (Lib.decDigits u) = u ∧ (u ≠ 0 → (Lib.decDigits u).head? ≠ some 48) := by
  intro u
  induction u using Nat.strongRecOn with
  | _ u ih =>
    have hdg : ∀ k, k < 10 → (UInt8.ofNat (48 + k)).toNat = 48 + k := fun k hk => by rw [UInt8.toNat_ofNat']; omega
    have hdv : ∀ k, k < 10 → dgv (UInt8.ofNat (48 + k)) = k := fun k hk => by rw [dgv_eq, hdg k hk]; omega
    have hdd : ∀ k, k < 10 → isDg (UInt8.ofNat (48 + k)) = true := fun k hk => by rw [isDg_iff, hdg k hk]; omega
    rw [Lib.decDigits]
    by_cases hu : u < 10
    · rw [dif_pos hu]
      refine ⟨by simp, by rw [List.all_cons, hdd u hu]; rfl, by simp only [valD]; rw [hdv u hu]; omega, fun h0 e => ?_⟩
      simp only [List.head?_cons, Option.some.injEq] at e
      have := congrArg UInt8.toNat e
      rw [hdg u hu] at this
      have h48 : (48 : UInt8).toNat = 48 := rfl
      omega
    · rw [dif_neg hu]
      obtain ⟨a, b, c, d⟩ := ih (u / 10) (by omega)
      have hm : u % 10 < 10 := by omega
      refine ⟨by simp, by rw [List.all_append, b, List.all_cons, hdd _ hm]; rfl, by rw [valD_snoc, c, hdv _ hm]; omega, fun _ => ?_⟩
      rw [List.head?_append]
      cases hd : (Lib.decDigits (u / 10)).head? with
      | none => exact absurd (List.head?_eq_none_iff.1 hd) a
      | some x =>
        intro e
        refine d (by omega) ?_
        rw [hd]; simpa using e
theorem mag_dec {u : Nat} (h : (Lib.decDigits u).length ≤ 18) : magOf (Lib.decDigits u) = some u := by
  obtain ⟨a, b, c, _⟩ := dec_facts u
  unfold magOf
  rw [if_pos ⟨a, h, b⟩, c]
/-- What is read is a number whose decimal form the text is. -/
theorem num_parse {l : List UInt8} {v : Int} (h : numOf l = some v) : Lib.parseIntB 64 l = .ok v ∧ Lib.itoa v = l ∧ -1000000000000000000 < v ∧ v < 1000000000000000000 := by
  cases l with
  | nil => cases h
  | cons c r =>
    simp only [numOf] at h
    by_cases h45 : c = 45
    · subst h45
      rw [if_pos rfl] at h
      split at h
      · cases h
      · rename_i hz
        cases hm : magOf r with
        | none => rw [hm] at h; cases h
        | some u =>
          rw [hm] at h
          obtain rfl : -(u : Int) = v := by simpa using h
          obtain ⟨hp, hb⟩ := parseB_ok hm
          unfold magOf at hm
          split at hm
          · rename_i hh
            injection hm with hm
            have hd := dec_of_val _ r rfl hh.1 hh.2.2 (fun e => absurd e hz)
            rw [hm] at hd
            have hpos : 1 ≤ u := by
              rcases Nat.eq_zero_or_pos u with h0 | h0
              · subst h0
                rw [Lib.decDigits, dif_pos (by omega)] at hd
                exact absurd (by rw [← hd]; rfl) hz
              · exact h0
            refine ⟨?_, by rw [Lib.itoa_neg u hpos, hd], by omega, by omega⟩
            rw [Lib.parseIntB_minus, hp]
            simp only [Lib.signedC]
            rw [if_neg (by omega)]
          · cases hm
    · rw [if_neg h45] at h
      split at h
      · cases h
      · rename_i hz
        cases hm : magOf (c :: r) with
        | none => rw [hm] at h; cases h
        | some u =>
          rw [hm] at h
          obtain rfl : (u : Int) = v := by simpa using h
          obtain ⟨hp, hb⟩ := parseB_ok hm
          unfold magOf at hm
          split at hm
          · rename_i hh
            injection hm with hm
            have hd := dec_of_val _ (c :: r) rfl hh.1 hh.2.2 (fun e => by
              have e' : c = 48 := by simpa using e
              by_cases hr : r = []
              · subst hr; rfl
              · exact absurd ⟨e', hr⟩ hz)
            rw [hm] at hd
            have hdg : isDg c = true := by have := hh.2.2; simp only [List.all_cons, Bool.and_eq_true] at this; exact this.1
            rw [isDg_iff] at hdg
            refine ⟨?_, by rw [Lib.itoa_nonneg, hd], by omega, by omega⟩
            rw [Lib.parseIntB_plain 64 c r (by omega) (by omega), hp]
            simp only [Lib.signlessC]
            rw [if_neg (by omega)]
          · cases hm
/-- A decimal form of at most 18 digits is read. -/
theorem num_itoa {v : Int} (h : (trimS (Lib.itoa v)).length ≤ 18) : numOf (Lib.itoa v) = some v := by
  by_cases hn : v < 0
  · obtain ⟨u, rfl⟩ : ∃ u : Nat, v = -(u : Int) := ⟨v.natAbs, by omega⟩
    have hu : 1 ≤ u := by omega
    rw [Lib.itoa_neg u hu] at h ⊢
    have h' : (Lib.decDigits u).length ≤ 18 := by simpa [trimS] using h
    simp only [numOf, if_true]
    rw [if_neg ((dec_facts u).2.2.2 (by omega)), mag_dec h']
    rfl
  · obtain ⟨u, rfl⟩ : ∃ u : Nat, v = (u : Int) := ⟨v.natAbs, by omega⟩
    rw [Lib.itoa_nonneg] at h ⊢
    obtain ⟨a, b, c, d⟩ := dec_facts u
    have hm : (Lib.decDigits u).length ≤ 18 → magOf (Lib.decDigits u) = some u := mag_dec
    generalize hL : Lib.decDigits u = L at *
    cases L with
    | nil => exact absurd rfl a
    | cons x r =>
      have hx : isDg x = true := by simp only [List.all_cons, Bool.and_eq_true] at b; exact b.1
      have h45 : x ≠ 45 := fun e => by rw [isDg_iff] at hx; rw [e] at hx; have : (45 : UInt8).toNat = 45 := rfl; omega
      simp only [trimS, if_neg h45] at h
      simp only [numOf, if_neg h45]
      rw [if_neg, hm h]
      · rfl
      · rintro ⟨e, hr⟩
        by_cases hu : u = 0
        · subst hu
          rw [Lib.decDigits, dif_pos (by omega)] at hL
          injection hL with _ hL
          exact hr hL.symm
        · exact d hu (by rw [e]; rfl)
theorem num_long {l : List UInt8} (h : 18 < (trimS l).length) : numOf l = none := by
  cases l with
  | nil => rfl
  | cons c r =>
    have hm : ∀ x : List UInt8, 18 < x.length → magOf x = none := fun x hx => by unfold magOf; rw [if_neg (fun hh => by omega)]
    by_cases h45 : c = 45
    · subst h45
      simp only [trimS, if_true] at h
      simp only [numOf, if_true]
      split
      · rfl
      · rw [hm r h]; rfl
    · simp only [trimS, if_neg h45] at h
      simp only [numOf, if_neg h45]
      split
      · rfl
      · rw [hm _ h]; rfl
theorem num_other {l : List UInt8} {v : Int} (h : Lib.parseIntB 64 l = .ok v) (hne : Lib.itoa v ≠ l) : numOf l = none := by
  cases hn : numOf l with
  | none => rfl
  | some x =>
    obtain ⟨a, b, _⟩ := num_parse hn
    rw [h] at a
    injection a with a
    subst a
    exact absurd b hne
theorem num_bad {l : List UInt8} (h : ∀ v, Lib.parseIntB 64 l ≠ .ok v) : numOf l = none := by
  cases hn : numOf l with
  | none => rfl
  | some x => exact absurd (num_parse hn).1 (h x)
end Go.Proofs.YtnlkikdgffaeeaaDoor
