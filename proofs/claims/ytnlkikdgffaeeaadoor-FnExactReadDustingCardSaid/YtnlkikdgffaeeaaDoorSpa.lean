/-
  Slices of spans, structs of texts and numbers: words, and those that came in. Conditions: those that each theorem states.
-/
import Derived.Test.YtnlkikdgffaeeaaDoorGq
namespace Go.Proofs.YtnlkikdgffaeeaaDoor
open Go.RowKit Go.ChangeShapes Go.WideShapes Go.Deep
set_option linter.unusedVariables false
set_option linter.unusedSimpArgs false

structure Sp where
  aw : Int
  fr : Int
  un : Int
def Sp.cells (x : Sp) : List Value := [.int .i64 x.aw, .int .i64 x.fr, .int .i64 x.un]
def Sp.none : Sp := ⟨0, 0, 0⟩
theorem Sp.cells_len (x : Sp) : x.cells.length = 3 := rfl
def spV (xs : List Sp) : List Value := xs.flatMap Sp.cells
theorem spV_len : ∀ xs : List Sp, (spV xs).length = xs.length * 3
  | [] => rfl
  | a :: r => by
    show (a.cells ++ spV r).length = _
    rw [List.length_append, spV_len r, Sp.cells_len, List.length_cons]; omega
theorem spV_app (a b : List Sp) : spV (a ++ b) = spV a ++ spV b := by simp [spV]
theorem spV_get (xs : List Sp) (k : Nat) (h : k < xs.length) (j : Nat) (hj : j < 3) : (spV xs)[k * 3 + j]? = xs[k].cells[j]? := by
  have e : xs = xs.take k ++ xs[k] :: xs.drop (k + 1) := by rw [← List.drop_eq_getElem_cons h, List.take_append_drop]
  have e2 : spV xs = spV (xs.take k) ++ (xs[k].cells ++ spV (xs.drop (k + 1))) := by
    conv => lhs; rw [e]
    rw [spV_app]; rfl
  have hl : (spV (xs.take k)).length = k * 3 := by rw [spV_len, List.length_take, Nat.min_eq_left (by omega)]
  rw [e2, List.getElem?_append_right (by omega), hl, Nat.add_sub_cancel_left, List.getElem?_append_left (by rw [Sp.cells_len]; exact hj)]
/-- A row that reads as spans, at whatever address if there are none. -/
def SpR (w : World) (A : Option Addr) (xs : List Sp) : Prop :=
  ∀ k (h : k < xs.length), ∃ b off, A = some ⟨b, off, none⟩ ∧ w.rangeAt b (off + k * 3) xs[k].cells
theorem SpR.below {w w' : World} {A : Option Addr} {xs : List Sp} (h : SpR w A xs) (hb : Below w.heap.size w w') : SpR w' A xs := fun k hk => by
  obtain ⟨b, off, e, hr⟩ := h k hk
  exact ⟨b, off, e, rangeAt_below hr hb (rangeAt_lt hr (by simp [Sp.cells]))⟩
theorem SpR.lower {B : Nat} {w w' : World} {A : Option Addr} {xs : List Sp} (h : SpR w A xs) (hb : Below B w w') (hA : ∀ b off, A = some ⟨b, off, none⟩ → b < B) : SpR w' A xs := fun k hk => by
  obtain ⟨b, off, e, hr⟩ := h k hk
  exact ⟨b, off, e, rangeAt_below hr hb (hA b off e)⟩
theorem SpR.nil (w : World) (A : Option Addr) : SpR w A [] := fun k hk => absurd hk (by simp)
theorem SpR.take {w : World} {A : Option Addr} {xs : List Sp} (h : SpR w A xs) (m : Nat) : SpR w A (xs.take m) := fun k hk => by
  have hk2 : k < xs.length := by rw [List.length_take] at hk; omega
  obtain ⟨b, off, e, hr⟩ := h k hk2
  exact ⟨b, off, e, by rw [List.getElem_take]; exact hr⟩
theorem BlkV.spR {w : World} {g : Nat} {t : TypeId} {xs : List Sp} (h : BlkV w g t (spV xs)) : SpR w (some ⟨g, 0, none⟩) xs := fun k hk => ⟨g, 0, rfl, fun j v hv => by
  rw [Nat.zero_add, h.cell]
  have hj : j < 3 := (List.getElem?_eq_some_iff.1 hv).1
  rw [spV_get xs k hk j hj]
  exact hv⟩
theorem spset (cs : List Value) (o : Nat) (a : Sp) (h : o + 3 ≤ cs.length) : (((cs.set (o) (.int .i64 a.aw)).set (o + 1) (.int .i64 a.fr)).set (o + 2) (.int .i64 a.un)) = cs.take o ++ a.cells ++ cs.drop (o + 3) := by
  apply List.ext_getElem?
  intro i
  have hl : (cs.take o ++ a.cells).length = o + 3 := by simp [Sp.cells_len]; omega
  by_cases h1 : i < o
  · rw [List.getElem?_append_left (by omega), List.getElem?_append_left (by simp; omega), List.getElem?_take, if_pos h1]
    repeat rw [List.getElem?_set_ne (by omega)]
  · by_cases h2 : i < o + 3
    · rw [List.getElem?_append_left (by omega), List.getElem?_append_right (by simp; omega), List.length_take, Nat.min_eq_left (by omega)]
      obtain ⟨j, rfl⟩ : ∃ j, i = o + j := ⟨i - o, by omega⟩
      rw [Nat.add_sub_cancel_left]
      have hj : j < 3 := by omega
      match j, hj with
      | 0, _ | 1, _ | 2, _ => simp [List.getElem?_set, Sp.cells]; omega
    · rw [List.getElem?_append_right (by omega), hl, List.getElem?_drop, show o + 3 + (i - (o + 3)) = i by omega]
      repeat rw [List.getElem?_set_ne (by omega)]
theorem BlkV.spset {w : World} {g : Nat} {t : TypeId} {cs : List Value} (h : BlkV w g t cs) (o : Nat) (a : Sp) (ho : o + 3 ≤ cs.length) : BlkV (((w.setCell ⟨g, o, none⟩ (.int .i64 a.aw)).setCell ⟨g, o + 1, none⟩ (.int .i64 a.fr)).setCell ⟨g, o + 2, none⟩ (.int .i64 a.un)) g t (cs.take o ++ a.cells ++ cs.drop (o + 3)) := by
  have := (((h.setC (o) (.int .i64 a.aw)).setC (o + 1) (.int .i64 a.fr)).setC (o + 2) (.int .i64 a.un))
  rwa [Go.Proofs.YtnlkikdgffaeeaaDoor.spset cs o a ho] at this
theorem below_spset {B : Nat} {w0 w : World} (h : Below B w0 w) {g : Nat} (hg : B ≤ g) (o : Nat) (a : Sp) : Below B w0 (((w.setCell ⟨g, o, none⟩ (.int .i64 a.aw)).setCell ⟨g, o + 1, none⟩ (.int .i64 a.fr)).setCell ⟨g, o + 2, none⟩ (.int .i64 a.un)) :=
  (((h.setCell (p := ⟨g, o, none⟩) hg _).setCell (p := ⟨g, o + 1, none⟩) hg _).setCell (p := ⟨g, o + 2, none⟩) hg _)
theorem BlkV.spcells {w : World} {g : Nat} {t : TypeId} {xs : List Sp} (h : BlkV w g t (spV xs)) (k : Nat) (hk : k < xs.length) :
    (w.cell? ⟨g, k * 3, none⟩ = some (.int .i64 xs[k].aw) ∧ w.cell? ⟨g, k * 3 + 1, none⟩ = some (.int .i64 xs[k].fr) ∧ w.cell? ⟨g, k * 3 + 2, none⟩ = some (.int .i64 xs[k].un)) ∧ (w.frozen? ⟨g, k * 3, none⟩ = false ∧ w.frozen? ⟨g, k * 3 + 1, none⟩ = false ∧ w.frozen? ⟨g, k * 3 + 2, none⟩ = false) := by
  have e : ∀ j, j < 3 → w.cell? ⟨g, k * 3 + j, none⟩ = xs[k].cells[j]? := fun j hj => by rw [h.cell, spV_get xs k hk j hj]
  exact ⟨⟨e 0 (by omega), e 1 (by omega), e 2 (by omega)⟩, ⟨h.frozen _, h.frozen _, h.frozen _⟩⟩
theorem sp_put (xs : List Sp) (k : Nat) (h : k < xs.length) :
    (spV (xs.take k ++ List.replicate (xs.length - k) Sp.none)).take (k * 3) ++ xs[k].cells ++ (spV (xs.take k ++ List.replicate (xs.length - k) Sp.none)).drop (k * 3 + 3) = spV (xs.take (k + 1) ++ List.replicate (xs.length - (k + 1)) Sp.none) := by
  have hl : (spV (xs.take k)).length = k * 3 := by rw [spV_len, List.length_take, Nat.min_eq_left (by omega)]
  have e : xs.length - k = (xs.length - (k + 1)) + 1 := by omega
  have e2 : xs.take (k + 1) = xs.take k ++ [xs[k]] := List.take_succ_eq_append_getElem h
  rw [spV_app, List.take_append_of_le_length (by omega), List.take_of_length_le (by omega), e, List.replicate_succ]
  rw [show spV (Sp.none :: List.replicate (xs.length - (k + 1)) Sp.none) = Sp.none.cells ++ spV (List.replicate (xs.length - (k + 1)) Sp.none) from rfl, ← List.append_assoc, List.drop_append_of_le_length (by simp [hl, Sp.cells_len]),
    List.drop_of_length_le (by simp [hl, Sp.cells_len]), List.nil_append, e2, spV_app, spV_app]
  rw [show spV [xs[k]] = xs[k].cells by simp [spV]]
theorem sp_made (n : Nat) : (madeCells (Sp.none.cells.toArray) (n * 3)).toList = spV (List.replicate n Sp.none) := by
  apply List.ext_getElem?
  intro i
  by_cases h : i < n * 3
  · have hq : i / 3 < n := by omega
    have e : (spV (List.replicate n Sp.none))[i]? = Sp.none.cells[i % 3]? := by
      have := spV_get (List.replicate n Sp.none) (i / 3) (by simpa using hq) (i % 3) (Nat.mod_lt _ (by omega))
      rw [show i / 3 * 3 + i % 3 = i by omega] at this
      rw [this, List.getElem_replicate]
    rw [e]
    simp [madeCells, h, Sp.cells]
    rw [List.getElem?_eq_getElem (by simp; omega)]
    simp
  · rw [List.getElem?_eq_none (by simp [madeCells]; omega), List.getElem?_eq_none (by rw [spV_len]; simp; omega)]
theorem sp_lay {w : World} {b o : Nat} {a : Sp} (h : w.rangeAt b o a.cells) : w.cell? ⟨b, o, none⟩ = some (.int .i64 a.aw) ∧ w.cell? ⟨b, o + 1, none⟩ = some (.int .i64 a.fr) ∧ w.cell? ⟨b, o + 2, none⟩ = some (.int .i64 a.un) :=
  ⟨h 0 _ rfl, h 1 _ rfl, h 2 _ rfl⟩
/-- One that came in: its texts are no longer than any is, its numbers are int64s. -/
def Sp.fits (a : Sp) : Prop := (Lit.int .i64 a.aw).wf = true ∧ (Lit.int .i64 a.fr).wf = true ∧ (Lit.int .i64 a.un).wf = true
end Go.Proofs.YtnlkikdgffaeeaaDoor
