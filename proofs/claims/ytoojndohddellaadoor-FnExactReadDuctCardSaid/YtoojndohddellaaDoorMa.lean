/-
  Slices of Ducts, structs of texts and numbers: words, and those that came in. Conditions: those that each theorem states.
-/
import Derived.Test.YtoojndohddellaaDoorGb
namespace Go.Proofs.YtoojndohddellaaDoor
open Go.RowKit Go.ChangeShapes Go.WideShapes Go.Deep
set_option linter.unusedVariables false
set_option linter.unusedSimpArgs false

structure Du where
  s : ByteArray
  l : Int
  j : Int
  lo : Int
def Du.cells (x : Du) : List Value := [.string x.s, .int .i64 x.l, .int .i64 x.j, .int .i64 x.lo]
def Du.none : Du := ⟨⟨#[]⟩, 0, 0, 0⟩
theorem Du.cells_len (x : Du) : x.cells.length = 4 := rfl
def duV (xs : List Du) : List Value := xs.flatMap Du.cells
theorem duV_len : ∀ xs : List Du, (duV xs).length = xs.length * 4
  | [] => rfl
  | a :: r => by
    show (a.cells ++ duV r).length = _
    rw [List.length_append, duV_len r, Du.cells_len, List.length_cons]; omega
theorem duV_app (a b : List Du) : duV (a ++ b) = duV a ++ duV b := by simp [duV]
theorem duV_get (xs : List Du) (k : Nat) (h : k < xs.length) (j : Nat) (hj : j < 4) : (duV xs)[k * 4 + j]? = xs[k].cells[j]? := by
  have e : xs = xs.take k ++ xs[k] :: xs.drop (k + 1) := by rw [← List.drop_eq_getElem_cons h, List.take_append_drop]
  have e2 : duV xs = duV (xs.take k) ++ (xs[k].cells ++ duV (xs.drop (k + 1))) := by
    conv => lhs; rw [e]
    rw [duV_app]; rfl
  have hl : (duV (xs.take k)).length = k * 4 := by rw [duV_len, List.length_take, Nat.min_eq_left (by omega)]
  rw [e2, List.getElem?_append_right (by omega), hl, Nat.add_sub_cancel_left, List.getElem?_append_left (by rw [Du.cells_len]; exact hj)]
/-- A row that reads as Ducts, at whatever address if there are none. -/
def DuR (w : World) (A : Option Addr) (xs : List Du) : Prop :=
  ∀ k (h : k < xs.length), ∃ b off, A = some ⟨b, off, none⟩ ∧ w.rangeAt b (off + k * 4) xs[k].cells
theorem DuR.below {w w' : World} {A : Option Addr} {xs : List Du} (h : DuR w A xs) (hb : Below w.heap.size w w') : DuR w' A xs := fun k hk => by
  obtain ⟨b, off, e, hr⟩ := h k hk
  exact ⟨b, off, e, rangeAt_below hr hb (rangeAt_lt hr (by simp [Du.cells]))⟩
theorem DuR.lower {B : Nat} {w w' : World} {A : Option Addr} {xs : List Du} (h : DuR w A xs) (hb : Below B w w') (hA : ∀ b off, A = some ⟨b, off, none⟩ → b < B) : DuR w' A xs := fun k hk => by
  obtain ⟨b, off, e, hr⟩ := h k hk
  exact ⟨b, off, e, rangeAt_below hr hb (hA b off e)⟩
theorem DuR.nil (w : World) (A : Option Addr) : DuR w A [] := fun k hk => absurd hk (by simp)
theorem DuR.take {w : World} {A : Option Addr} {xs : List Du} (h : DuR w A xs) (m : Nat) : DuR w A (xs.take m) := fun k hk => by
  have hk2 : k < xs.length := by rw [List.length_take] at hk; omega
  obtain ⟨b, off, e, hr⟩ := h k hk2
  exact ⟨b, off, e, by rw [List.getElem_take]; exact hr⟩
theorem BlkV.duR {w : World} {g : Nat} {t : TypeId} {xs : List Du} (h : BlkV w g t (duV xs)) : DuR w (some ⟨g, 0, none⟩) xs := fun k hk => ⟨g, 0, rfl, fun j v hv => by
  rw [Nat.zero_add, h.cell]
  have hj : j < 4 := (List.getElem?_eq_some_iff.1 hv).1
  rw [duV_get xs k hk j hj]
  exact hv⟩
theorem duset (cs : List Value) (o : Nat) (a : Du) (h : o + 4 ≤ cs.length) : ((((cs.set (o) (.string a.s)).set (o + 1) (.int .i64 a.l)).set (o + 2) (.int .i64 a.j)).set (o + 3) (.int .i64 a.lo)) = cs.take o ++ a.cells ++ cs.drop (o + 4) := by
  apply List.ext_getElem?
  intro i
  have hl : (cs.take o ++ a.cells).length = o + 4 := by simp [Du.cells_len]; omega
  by_cases h1 : i < o
  · rw [List.getElem?_append_left (by omega), List.getElem?_append_left (by simp; omega), List.getElem?_take, if_pos h1]
    repeat rw [List.getElem?_set_ne (by omega)]
  · by_cases h2 : i < o + 4
    · rw [List.getElem?_append_left (by omega), List.getElem?_append_right (by simp; omega), List.length_take, Nat.min_eq_left (by omega)]
      obtain ⟨j, rfl⟩ : ∃ j, i = o + j := ⟨i - o, by omega⟩
      rw [Nat.add_sub_cancel_left]
      have hj : j < 4 := by omega
      match j, hj with
      | 0, _ | 1, _ | 2, _ | 3, _ => simp [List.getElem?_set, Du.cells]; omega
    · rw [List.getElem?_append_right (by omega), hl, List.getElem?_drop, show o + 4 + (i - (o + 4)) = i by omega]
      repeat rw [List.getElem?_set_ne (by omega)]
theorem BlkV.duset {w : World} {g : Nat} {t : TypeId} {cs : List Value} (h : BlkV w g t cs) (o : Nat) (a : Du) (ho : o + 4 ≤ cs.length) : BlkV ((((w.setCell ⟨g, o, none⟩ (.string a.s)).setCell ⟨g, o + 1, none⟩ (.int .i64 a.l)).setCell ⟨g, o + 2, none⟩ (.int .i64 a.j)).setCell ⟨g, o + 3, none⟩ (.int .i64 a.lo)) g t (cs.take o ++ a.cells ++ cs.drop (o + 4)) := by
  have := ((((h.setC (o) (.string a.s)).setC (o + 1) (.int .i64 a.l)).setC (o + 2) (.int .i64 a.j)).setC (o + 3) (.int .i64 a.lo))
  rwa [Go.Proofs.YtoojndohddellaaDoor.duset cs o a ho] at this
theorem below_duset {B : Nat} {w0 w : World} (h : Below B w0 w) {g : Nat} (hg : B ≤ g) (o : Nat) (a : Du) : Below B w0 ((((w.setCell ⟨g, o, none⟩ (.string a.s)).setCell ⟨g, o + 1, none⟩ (.int .i64 a.l)).setCell ⟨g, o + 2, none⟩ (.int .i64 a.j)).setCell ⟨g, o + 3, none⟩ (.int .i64 a.lo)) :=
  ((((h.setCell (p := ⟨g, o, none⟩) hg _).setCell (p := ⟨g, o + 1, none⟩) hg _).setCell (p := ⟨g, o + 2, none⟩) hg _).setCell (p := ⟨g, o + 3, none⟩) hg _)
theorem BlkV.ducells {w : World} {g : Nat} {t : TypeId} {xs : List Du} (h : BlkV w g t (duV xs)) (k : Nat) (hk : k < xs.length) :
    (w.cell? ⟨g, k * 4, none⟩ = some (.string xs[k].s) ∧ w.cell? ⟨g, k * 4 + 1, none⟩ = some (.int .i64 xs[k].l) ∧ w.cell? ⟨g, k * 4 + 2, none⟩ = some (.int .i64 xs[k].j) ∧ w.cell? ⟨g, k * 4 + 3, none⟩ = some (.int .i64 xs[k].lo)) ∧ (w.frozen? ⟨g, k * 4, none⟩ = false ∧ w.frozen? ⟨g, k * 4 + 1, none⟩ = false ∧ w.frozen? ⟨g, k * 4 + 2, none⟩ = false ∧ w.frozen? ⟨g, k * 4 + 3, none⟩ = false) := by
  have e : ∀ j, j < 4 → w.cell? ⟨g, k * 4 + j, none⟩ = xs[k].cells[j]? := fun j hj => by rw [h.cell, duV_get xs k hk j hj]
  exact ⟨⟨e 0 (by omega), e 1 (by omega), e 2 (by omega), e 3 (by omega)⟩, ⟨h.frozen _, h.frozen _, h.frozen _, h.frozen _⟩⟩
theorem du_put (xs : List Du) (k : Nat) (h : k < xs.length) :
    (duV (xs.take k ++ List.replicate (xs.length - k) Du.none)).take (k * 4) ++ xs[k].cells ++ (duV (xs.take k ++ List.replicate (xs.length - k) Du.none)).drop (k * 4 + 4) = duV (xs.take (k + 1) ++ List.replicate (xs.length - (k + 1)) Du.none) := by
  have hl : (duV (xs.take k)).length = k * 4 := by rw [duV_len, List.length_take, Nat.min_eq_left (by omega)]
  have e : xs.length - k = (xs.length - (k + 1)) + 1 := by omega
  have e2 : xs.take (k + 1) = xs.take k ++ [xs[k]] := List.take_succ_eq_append_getElem h
  rw [duV_app, List.take_append_of_le_length (by omega), List.take_of_length_le (by omega), e, List.replicate_succ]
  rw [show duV (Du.none :: List.replicate (xs.length - (k + 1)) Du.none) = Du.none.cells ++ duV (List.replicate (xs.length - (k + 1)) Du.none) from rfl, ← List.append_assoc, List.drop_append_of_le_length (by simp [hl, Du.cells_len]),
    List.drop_of_length_le (by simp [hl, Du.cells_len]), List.nil_append, e2, duV_app, duV_app]
  rw [show duV [xs[k]] = xs[k].cells by simp [duV]]
theorem du_made (n : Nat) : (madeCells (Du.none.cells.toArray) (n * 4)).toList = duV (List.replicate n Du.none) := by
  apply List.ext_getElem?
  intro i
  by_cases h : i < n * 4
  · have hq : i / 4 < n := by omega
    have e : (duV (List.replicate n Du.none))[i]? = Du.none.cells[i % 4]? := by
      have := duV_get (List.replicate n Du.none) (i / 4) (by simpa using hq) (i % 4) (Nat.mod_lt _ (by omega))
      rw [show i / 4 * 4 + i % 4 = i by omega] at this
      rw [this, List.getElem_replicate]
    rw [e]
    simp [madeCells, h, Du.cells]
    rw [List.getElem?_eq_getElem (by simp; omega)]
    simp
  · rw [List.getElem?_eq_none (by simp [madeCells]; omega), List.getElem?_eq_none (by rw [duV_len]; simp; omega)]
theorem du_lay {w : World} {b o : Nat} {a : Du} (h : w.rangeAt b o a.cells) : w.cell? ⟨b, o, none⟩ = some (.string a.s) ∧ w.cell? ⟨b, o + 1, none⟩ = some (.int .i64 a.l) ∧ w.cell? ⟨b, o + 2, none⟩ = some (.int .i64 a.j) ∧ w.cell? ⟨b, o + 3, none⟩ = some (.int .i64 a.lo) :=
  ⟨h 0 _ rfl, h 1 _ rfl, h 2 _ rfl, h 3 _ rfl⟩
/-- One that came in: its texts are no longer than any is, its numbers are int64s. -/
def Du.fits (a : Du) : Prop := a.s.size ≤ maxLen ∧ (Lit.int .i64 a.l).wf = true ∧ (Lit.int .i64 a.j).wf = true ∧ (Lit.int .i64 a.lo).wf = true
end Go.Proofs.YtoojndohddellaaDoor
