/-
  Words between blanks: the library's division by runes and the division by bytes, plain mathematics. Conditions: those that each theorem states.
-/
import Derived.Test.YtofpecgmnodflaaNd
import Derived.Lib.FieldsP
import Derived.Lib.MapLaws
namespace Go.Proofs.Ytofpecgmnodflaa
set_option linter.unusedVariables false
set_option linter.unusedSimpArgs false

/-- The words of a text, with what has been read of the word that is under way. -/
def wordsF (cur : List UInt8) : List UInt8 → List (List UInt8)
  | [] => if cur = [] then [] else [cur]
  | c :: r => if c = 32 then (if cur = [] then wordsF [] r else cur :: wordsF [] r) else wordsF (cur ++ [c]) r
theorem wordsF_split : ∀ (l cur : List UInt8), wordsF cur l = (match splitL 32 l with | p :: ps => (cur ++ p) :: ps | [] => []).filter (fun p => !p.isEmpty)
  | [], cur => by
    simp only [wordsF, splitL, List.append_nil]
    cases cur <;> simp
  | c :: r, cur => by
    have ih := wordsF_split r
    simp only [wordsF, splitL]
    by_cases hc : c = 32
    · simp only [if_pos hc, List.append_nil]
      have h0 := ih []
      simp only [List.nil_append] at h0
      have hm : (match splitL 32 r with | p :: ps => p :: ps | [] => []) = splitL 32 r := by split <;> simp_all
      rw [hm] at h0
      cases cur with
      | nil => simp [h0]
      | cons a t => simp [h0]
    · simp only [if_neg hc]
      rw [ih (cur ++ [c])]
      split
      · rename_i p ps e; rw [e]; simp
      · rename_i e; exact absurd e (splitL_ne 32 r)
theorem wordsF_nil (l : List UInt8) : wordsF [] l = (splitL 32 l).filter (fun p => !p.isEmpty) := by
  rw [wordsF_split]
  split
  · rename_i p ps e; simp [e]
  · rename_i e; exact absurd e (splitL_ne 32 l)
theorem wordsF_app : ∀ (u v cur : List UInt8), (32 : UInt8) ∉ u → wordsF cur (u ++ v) = wordsF (cur ++ u) v
  | [], v, cur, _ => by simp
  | c :: u, v, cur, h => by
    have hc : c ≠ 32 := fun e => h (by simp [e])
    show wordsF cur (c :: (u ++ v)) = _
    rw [wordsF, if_neg hc, wordsF_app u v (cur ++ [c]) (fun hm => h (List.mem_cons_of_mem _ hm))]
    simp
theorem get_list {s : ByteArray} {i : Nat} (h : i < s.size) : s.get! i = s.data.toList[i]'(by simpa using h) := by
  have h' : i < s.data.size := h
  show s.data[i]! = _
  rw [getElem!_pos s.data i h']
  simp
theorem extract_list (s : ByteArray) (a b : Nat) : (s.extract a b).data.toList = (s.data.toList.drop a).take (b - a) := by
  simp [List.extract]
/-- What a rune is, at a blank and elsewhere. -/
theorem rune_at (s : ByteArray) (pos : Nat) (h : pos < s.size) :
    ((s.get! pos).toNat = 32 ∧ Utf8.decode s pos = (32, 1)) ∨
    ((Utf8.decode s pos).1 ≠ 32 ∧ 1 ≤ (Utf8.decode s pos).2 ∧ pos + (Utf8.decode s pos).2 ≤ s.size ∧ ∀ i, pos ≤ i → i < pos + (Utf8.decode s pos).2 → (s.get! i).toNat ≠ 32) := by
  rw [Lib.decode_at]
  generalize hb0 : (s.get! pos).toNat = b0
  generalize hb1 : (s.get! (pos + 1)).toNat = b1
  generalize hb2 : (s.get! (pos + 2)).toNat = b2
  generalize hb3 : (s.get! (pos + 3)).toNat = b3
  have key : ∀ i, pos ≤ i → i < pos + 4 → i = pos ∨ i = pos + 1 ∨ i = pos + 2 ∨ i = pos + 3 := fun i h1 h2 => by omega
  rcases Lib.decodeN_shape (s.size - pos) b0 b1 b2 b3 with ⟨h0, e⟩ | ⟨h0, h1, h2, h3, e⟩ | h3 | h4 | e5
  · by_cases h32 : b0 = 32
    · left; rw [e, h32]; exact ⟨rfl, rfl⟩
    · right; rw [e]
      refine ⟨h32, Nat.le_refl _, by simp only; omega, fun i h1 h2 => ?_⟩
      simp only at h2
      obtain rfl : i = pos := by omega
      rw [hb0]; exact h32
  · right; rw [e]
    refine ⟨by simp only; omega, by omega, by simp only; omega, fun i h1 h2 => ?_⟩
    simp only at h2
    rcases key i h1 (by omega) with rfl | rfl | rfl | rfl <;> first | (rw [hb0]; omega) | (rw [hb1]; omega) | omega
  · obtain ⟨h0, h1, h2, h3, h4, h5, e⟩ := (by simpa only [and_assoc] using h3 : _ ∧ _ ∧ _ ∧ _ ∧ _ ∧ _ ∧ _)
    right; rw [e]
    refine ⟨by simp only; omega, by omega, by simp only; omega, fun i h1 h2 => ?_⟩
    simp only at h2
    rcases key i h1 (by omega) with rfl | rfl | rfl | rfl <;> first | (rw [hb0]; omega) | (rw [hb1]; omega) | (rw [hb2]; omega) | omega
  · obtain ⟨h0, h1, h2, h3, h4, h5, h6, e⟩ := (by simpa only [and_assoc] using h4 : _ ∧ _ ∧ _ ∧ _ ∧ _ ∧ _ ∧ _ ∧ _)
    right; rw [e]
    refine ⟨by simp only; omega, by omega, by simp only; omega, fun i h1 h2 => ?_⟩
    simp only at h2
    rcases key i h1 (by omega) with rfl | rfl | rfl | rfl <;> first | (rw [hb0]; omega) | (rw [hb1]; omega) | (rw [hb2]; omega) | (rw [hb3]; omega) | omega
  · by_cases h128 : b0 < 128
    · have : Lib.decodeN (s.size - pos) b0 b1 b2 b3 = (b0, 1) := by unfold Lib.decodeN; rw [if_pos h128]
      rw [this] at e5
      injection e5 with e5
      omega
    · right; rw [e5]
      refine ⟨by simp only; omega, by simp only; omega, by simp only; omega, fun i h1 h2 => ?_⟩
      simp only at h2
      obtain rfl : i = pos := by omega
      rw [hb0]; omega
def isBl (r : Nat) : Bool := r == 32
def pieceL (s : ByteArray) (x : Nat × Nat) : List UInt8 := (s.data.toList.drop x.1).take (x.2 - x.1)
theorem drop_step {d : List UInt8} {pos w : Nat} : d.drop pos = (d.drop pos).take w ++ d.drop (pos + w) := by
  rw [← List.drop_drop, List.take_append_drop]
theorem spans_step (s : ByteArray) (f pos : Nat) (st : Option Nat) (acc : List (Nat × Nat)) : Lib.spansFromP isBl s (f + 1) pos st acc = (if pos < s.size then (if isBl (Utf8.decode s pos).1 then (match st with | some a => Lib.spansFromP isBl s f (pos + (Utf8.decode s pos).2) none (acc ++ [(a, pos)]) | none => Lib.spansFromP isBl s f (pos + (Utf8.decode s pos).2) none acc) else (match st with | some a => Lib.spansFromP isBl s f (pos + (Utf8.decode s pos).2) (some a) acc | none => Lib.spansFromP isBl s f (pos + (Utf8.decode s pos).2) (some pos) acc)) else (acc, st)) := rfl
theorem spans_words (s : ByteArray) : ∀ (f pos : Nat) (st : Option Nat) (acc : List (Nat × Nat)), s.size ≤ pos + f → pos ≤ s.size → (∀ a, st = some a → a < pos) →
    (Lib.closeSpans s (Lib.spansFromP isBl s f pos st acc)).map (pieceL s) = acc.map (pieceL s) ++ wordsF (match st with | some a => pieceL s (a, pos) | none => []) (s.data.toList.drop pos) := by
  intro f
  induction f with
  | zero =>
    intro pos st acc hf hp hst
    obtain rfl : pos = s.size := by omega
    rw [Lib.spansFromP_end _ _ _ _ _ _ (by omega)]
    have hd : s.data.toList.drop s.size = [] := List.drop_of_length_le (by simp)
    rw [hd]
    cases st with
    | none => simp [Lib.closeSpans, wordsF]
    | some a =>
      have ha := hst a rfl
      have hne : pieceL s (a, s.size) ≠ [] := fun e => by
        have := congrArg List.length e
        simp [pieceL] at this
        omega
      simp [Lib.closeSpans, wordsF, hne]
  | succ f ih =>
    intro pos st acc hf hp hst
    by_cases hlt : pos < s.size
    · have hdl : pos < s.data.toList.length := by simpa using hlt
      rw [spans_step, if_pos hlt]
      rcases rune_at s pos hlt with ⟨hg, hd⟩ | ⟨h1, h2, h3, h4⟩
      · have hc : s.data.toList[pos] = 32 := by
          rw [← get_list hlt]
          exact UInt8.toNat_inj.1 hg
        have hdr : s.data.toList.drop pos = 32 :: s.data.toList.drop (pos + 1) := by rw [List.drop_eq_getElem_cons hdl, hc]
        rw [hd, if_pos (show isBl 32 = true from rfl), hdr]
        cases st with
        | none =>
          simp only
          rw [ih (pos + 1) none acc (by omega) (by omega) (fun a h => by cases h)]
          simp [wordsF]
        | some a =>
          have ha := hst a rfl
          have hne : pieceL s (a, pos) ≠ [] := fun e => by
            have := congrArg List.length e
            simp [pieceL] at this
            omega
          simp only
          rw [ih (pos + 1) none _ (by omega) (by omega) (fun a h => by cases h)]
          simp [wordsF, hne]
      · have hnb : isBl (Utf8.decode s pos).1 = false := by unfold isBl; exact beq_false_of_ne h1
        rw [hnb]
        generalize (Utf8.decode s pos).2 = w at *
        have hno : (32 : UInt8) ∉ (s.data.toList.drop pos).take w := fun hm => by
          obtain ⟨k, hk, e⟩ := List.mem_iff_getElem.1 hm
          simp only [List.length_take, List.length_drop] at hk
          have hk2 : pos + k < s.size := by omega
          rw [List.getElem_take, List.getElem_drop] at e
          have := h4 (pos + k) (by omega) (by omega)
          rw [get_list hk2, e] at this
          exact this rfl
        rw [drop_step (d := s.data.toList) (pos := pos) (w := w), wordsF_app _ _ _ hno]
        cases st with
        | none =>
          simp only [Bool.false_eq_true, if_false]
          rw [ih (pos + w) (some pos) acc (by omega) (by omega) (fun a h => by cases h; omega)]
          simp [pieceL]
        | some a =>
          have ha := hst a rfl
          simp only [Bool.false_eq_true, if_false]
          rw [ih (pos + w) (some a) acc (by omega) (by omega) (fun b h => by cases h; omega)]
          congr 2
          unfold pieceL
          simp only
          have e1 : s.data.toList.drop pos = (s.data.toList.drop a).drop (pos - a) := by rw [List.drop_drop]; congr 1; omega
          rw [e1, ← List.take_add]
          congr 1; omega
    · obtain rfl : pos = s.size := by omega
      rw [Lib.spansFromP_end _ _ _ _ _ _ (by omega)]
      have hd : s.data.toList.drop s.size = [] := List.drop_of_length_le (by simp)
      rw [hd]
      cases st with
      | none => simp [Lib.closeSpans, wordsF]
      | some a =>
        have ha := hst a rfl
        have hne : pieceL s (a, s.size) ≠ [] := fun e => by
          have := congrArg List.length e
          simp [pieceL] at this
          omega
        simp [Lib.closeSpans, wordsF, hne]
theorem bytes_inj {a b : ByteArray} (h : a.data.toList = b.data.toList) : a = b := by
  cases a; cases b
  congr 1
  exact Array.toList_inj.1 h
/-- The words of a text. -/
def wordsB (d : List UInt8) : List ByteArray := ((splitL 32 d).filter (fun p => !p.isEmpty)).map (fun p => ⟨p.toArray⟩)
/-- The library's division at blanks gives the words between them. -/
theorem fields_words (s : ByteArray) : Lib.goFieldsP isBl s = wordsB s.data.toList := by
  have h := spans_words s s.size 0 none [] (by omega) (by omega) (fun a h => by cases h)
  simp only [List.map_nil, List.nil_append, List.drop_zero] at h
  rw [wordsF_nil] at h
  unfold Lib.goFieldsP wordsB Lib.spansOfP
  rw [← h, List.map_map]
  refine List.map_congr_left fun x _ => ?_
  exact bytes_inj (by rw [extract_list]; rfl)
end Go.Proofs.Ytofpecgmnodflaa
