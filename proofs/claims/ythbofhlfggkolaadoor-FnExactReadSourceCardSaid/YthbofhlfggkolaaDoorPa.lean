/-
  Slices of Sources, structs of texts and numbers: words, and those that came in. Conditions: those that each theorem states.
-/
import Derived.Test.YthbofhlfggkolaaDoorGb
namespace Go.Proofs.YthbofhlfggkolaaDoor
open Go.RowKit Go.ChangeShapes Go.WideShapes Go.Deep
set_option linter.unusedVariables false
set_option linter.unusedSimpArgs false

structure So where
  s : ByteArray
  a : Int
  r : Int
def So.cells (x : So) : List Value := [.string x.s, .int .i64 x.a, .int .i64 x.r]
def So.none : So := ⟨⟨#[]⟩, 0, 0⟩
theorem So.cells_len (x : So) : x.cells.length = 3 := rfl
def soV (xs : List So) : List Value := xs.flatMap So.cells
theorem soV_len : ∀ xs : List So, (soV xs).length = xs.length * 3
  | [] => rfl
  | a :: r => by
    show (a.cells ++ soV r).length = _
    rw [List.length_append, soV_len r, So.cells_len, List.length_cons]; omega
theorem soV_app (a b : List So) : soV (a ++ b) = soV a ++ soV b := by simp [soV]
theorem soV_get (xs : List So) (k : Nat) (h : k < xs.length) (j : Nat) (hj : j < 3) : (soV xs)[k * 3 + j]? = xs[k].cells[j]? := by
  have e : xs = xs.take k ++ xs[k] :: xs.drop (k + 1) := by rw [← List.drop_eq_getElem_cons h, List.take_append_drop]
  have e2 : soV xs = soV (xs.take k) ++ (xs[k].cells ++ soV (xs.drop (k + 1))) := by
    conv => lhs; rw [e]
    rw [soV_app]; rfl
  have hl : (soV (xs.take k)).length = k * 3 := by rw [soV_len, List.length_take, Nat.min_eq_left (by omega)]
  rw [e2, List.getElem?_append_right (by omega), hl, Nat.add_sub_cancel_left, List.getElem?_append_left (by rw [So.cells_len]; exact hj)]
/-- A row that reads as Sources, at whatever address if there are none. -/
def SoR (w : World) (A : Option Addr) (xs : List So) : Prop :=
  ∀ k (h : k < xs.length), ∃ b off, A = some ⟨b, off, none⟩ ∧ w.rangeAt b (off + k * 3) xs[k].cells
theorem SoR.below {w w' : World} {A : Option Addr} {xs : List So} (h : SoR w A xs) (hb : Below w.heap.size w w') : SoR w' A xs := fun k hk => by
  obtain ⟨b, off, e, hr⟩ := h k hk
  exact ⟨b, off, e, rangeAt_below hr hb (rangeAt_lt hr (by simp [So.cells]))⟩
theorem SoR.lower {B : Nat} {w w' : World} {A : Option Addr} {xs : List So} (h : SoR w A xs) (hb : Below B w w') (hA : ∀ b off, A = some ⟨b, off, none⟩ → b < B) : SoR w' A xs := fun k hk => by
  obtain ⟨b, off, e, hr⟩ := h k hk
  exact ⟨b, off, e, rangeAt_below hr hb (hA b off e)⟩
theorem SoR.nil (w : World) (A : Option Addr) : SoR w A [] := fun k hk => absurd hk (by simp)
theorem SoR.take {w : World} {A : Option Addr} {xs : List So} (h : SoR w A xs) (m : Nat) : SoR w A (xs.take m) := fun k hk => by
  have hk2 : k < xs.length := by rw [List.length_take] at hk; omega
  obtain ⟨b, off, e, hr⟩ := h k hk2
  exact ⟨b, off, e, by rw [List.getElem_take]; exact hr⟩
theorem BlkV.soR {w : World} {g : Nat} {t : TypeId} {xs : List So} (h : BlkV w g t (soV xs)) : SoR w (some ⟨g, 0, none⟩) xs := fun k hk => ⟨g, 0, rfl, fun j v hv => by
  rw [Nat.zero_add, h.cell]
  have hj : j < 3 := (List.getElem?_eq_some_iff.1 hv).1
  rw [soV_get xs k hk j hj]
  exact hv⟩
theorem soset (cs : List Value) (o : Nat) (a : So) (h : o + 3 ≤ cs.length) : (((cs.set (o) (.string a.s)).set (o + 1) (.int .i64 a.a)).set (o + 2) (.int .i64 a.r)) = cs.take o ++ a.cells ++ cs.drop (o + 3) := by
  apply List.ext_getElem?
  intro i
  have hl : (cs.take o ++ a.cells).length = o + 3 := by simp [So.cells_len]; omega
  by_cases h1 : i < o
  · rw [List.getElem?_append_left (by omega), List.getElem?_append_left (by simp; omega), List.getElem?_take, if_pos h1]
    repeat rw [List.getElem?_set_ne (by omega)]
  · by_cases h2 : i < o + 3
    · rw [List.getElem?_append_left (by omega), List.getElem?_append_right (by simp; omega), List.length_take, Nat.min_eq_left (by omega)]
      obtain ⟨j, rfl⟩ : ∃ j, i = o + j := ⟨i - o, by omega⟩
      rw [Nat.add_sub_cancel_left]
      have hj : j < 3 := by omega
      match j, hj with
      | 0, _ | 1, _ | 2, _ => simp [List.getElem?_set, So.cells]; omega
    · rw [List.getElem?_append_right (by omega), hl, List.getElem?_drop, show o + 3 + (i - (o + 3)) = i by omega]
      repeat rw [List.getElem?_set_ne (by omega)]
theorem BlkV.soset {w : World} {g : Nat} {t : TypeId} {cs : List Value} (h : BlkV w g t cs) (o : Nat) (a : So) (ho : o + 3 ≤ cs.length) : BlkV (((w.setCell ⟨g, o, none⟩ (.string a.s)).setCell ⟨g, o + 1, none⟩ (.int .i64 a.a)).setCell ⟨g, o + 2, none⟩ (.int .i64 a.r)) g t (cs.take o ++ a.cells ++ cs.drop (o + 3)) := by
  have := (((h.setC (o) (.string a.s)).setC (o + 1) (.int .i64 a.a)).setC (o + 2) (.int .i64 a.r))
  rwa [Go.Proofs.YthbofhlfggkolaaDoor.soset cs o a ho] at this
theorem below_soset {B : Nat} {w0 w : World} (h : Below B w0 w) {g : Nat} (hg : B ≤ g) (o : Nat) (a : So) : Below B w0 (((w.setCell ⟨g, o, none⟩ (.string a.s)).setCell ⟨g, o + 1, none⟩ (.int .i64 a.a)).setCell ⟨g, o + 2, none⟩ (.int .i64 a.r)) :=
  (((h.setCell (p := ⟨g, o, none⟩) hg _).setCell (p := ⟨g, o + 1, none⟩) hg _).setCell (p := ⟨g, o + 2, none⟩) hg _)
theorem BlkV.socells {w : World} {g : Nat} {t : TypeId} {xs : List So} (h : BlkV w g t (soV xs)) (k : Nat) (hk : k < xs.length) :
    (w.cell? ⟨g, k * 3, none⟩ = some (.string xs[k].s) ∧ w.cell? ⟨g, k * 3 + 1, none⟩ = some (.int .i64 xs[k].a) ∧ w.cell? ⟨g, k * 3 + 2, none⟩ = some (.int .i64 xs[k].r)) ∧ (w.frozen? ⟨g, k * 3, none⟩ = false ∧ w.frozen? ⟨g, k * 3 + 1, none⟩ = false ∧ w.frozen? ⟨g, k * 3 + 2, none⟩ = false) := by
  have e : ∀ j, j < 3 → w.cell? ⟨g, k * 3 + j, none⟩ = xs[k].cells[j]? := fun j hj => by rw [h.cell, soV_get xs k hk j hj]
  exact ⟨⟨e 0 (by omega), e 1 (by omega), e 2 (by omega)⟩, ⟨h.frozen _, h.frozen _, h.frozen _⟩⟩
theorem so_put (xs : List So) (k : Nat) (h : k < xs.length) :
    (soV (xs.take k ++ List.replicate (xs.length - k) So.none)).take (k * 3) ++ xs[k].cells ++ (soV (xs.take k ++ List.replicate (xs.length - k) So.none)).drop (k * 3 + 3) = soV (xs.take (k + 1) ++ List.replicate (xs.length - (k + 1)) So.none) := by
  have hl : (soV (xs.take k)).length = k * 3 := by rw [soV_len, List.length_take, Nat.min_eq_left (by omega)]
  have e : xs.length - k = (xs.length - (k + 1)) + 1 := by omega
  have e2 : xs.take (k + 1) = xs.take k ++ [xs[k]] := List.take_succ_eq_append_getElem h
  rw [soV_app, List.take_append_of_le_length (by omega), List.take_of_length_le (by omega), e, List.replicate_succ]
  rw [show soV (So.none :: List.replicate (xs.length - (k + 1)) So.none) = So.none.cells ++ soV (List.replicate (xs.length - (k + 1)) So.none) from rfl, ← List.append_assoc, List.drop_append_of_le_length (by simp [hl, So.cells_len]),
    List.drop_of_length_le (by simp [hl, So.cells_len]), List.nil_append, e2, soV_app, soV_app]
  rw [show soV [xs[k]] = xs[k].cells by simp [soV]]
theorem so_made (n : Nat) : (madeCells (So.none.cells.toArray) (n * 3)).toList = soV (List.replicate n So.none) := by
  apply List.ext_getElem?
  intro i
  by_cases h : i < n * 3
  · have hq : i / 3 < n := by omega
    have e : (soV (List.replicate n So.none))[i]? = So.none.cells[i % 3]? := by
      have := soV_get (List.replicate n So.none) (i / 3) (by simpa using hq) (i % 3) (Nat.mod_lt _ (by omega))
      rw [show i / 3 * 3 + i % 3 = i by omega] at this
      rw [this, List.getElem_replicate]
    rw [e]
    simp [madeCells, h, So.cells]
    rw [List.getElem?_eq_getElem (by simp; omega)]
    simp
  · rw [List.getElem?_eq_none (by simp [madeCells]; omega), List.getElem?_eq_none (by rw [soV_len]; simp; omega)]
theorem so_lay {w : World} {b o : Nat} {a : So} (h : w.rangeAt b o a.cells) : w.cell? ⟨b, o, none⟩ = some (.string a.s) ∧ w.cell? ⟨b, o + 1, none⟩ = some (.int .i64 a.a) ∧ w.cell? ⟨b, o + 2, none⟩ = some (.int .i64 a.r) :=
  ⟨h 0 _ rfl, h 1 _ rfl, h 2 _ rfl⟩
/-- One that came in: its texts are no longer than any is, its numbers are int64s. -/
def So.fits (a : So) : Prop := a.s.size ≤ maxLen ∧ (Lit.int .i64 a.a).wf = true ∧ (Lit.int .i64 a.r).wf = true
end Go.Proofs.YthbofhlfggkolaaDoor
