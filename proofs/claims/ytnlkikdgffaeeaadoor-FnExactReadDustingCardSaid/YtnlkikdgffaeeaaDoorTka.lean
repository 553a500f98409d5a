/-
  Slices of Dustings, structs of texts and numbers: words, and those that came in. Conditions: those that each theorem states.
-/
import Derived.Test.YtnlkikdgffaeeaaDoorGq
namespace Go.Proofs.YtnlkikdgffaeeaaDoor
open Go.RowKit Go.ChangeShapes Go.WideShapes Go.Deep
set_option linter.unusedVariables false
set_option linter.unusedSimpArgs false

structure Tk where
  aw : Int
  fr : Int
  un : Int
  du : Int
def Tk.cells (x : Tk) : List Value := [.int .i64 x.aw, .int .i64 x.fr, .int .i64 x.un, .int .i64 x.du]
def Tk.none : Tk := ⟨0, 0, 0, 0⟩
theorem Tk.cells_len (x : Tk) : x.cells.length = 4 := rfl
def tkV (xs : List Tk) : List Value := xs.flatMap Tk.cells
theorem tkV_len : ∀ xs : List Tk, (tkV xs).length = xs.length * 4
  | [] => rfl
  | a :: r => by
    show (a.cells ++ tkV r).length = _
    rw [List.length_append, tkV_len r, Tk.cells_len, List.length_cons]; omega
theorem tkV_app (a b : List Tk) : tkV (a ++ b) = tkV a ++ tkV b := by simp [tkV]
theorem tkV_get (xs : List Tk) (k : Nat) (h : k < xs.length) (j : Nat) (hj : j < 4) : (tkV xs)[k * 4 + j]? = xs[k].cells[j]? := by
  have e : xs = xs.take k ++ xs[k] :: xs.drop (k + 1) := by rw [← List.drop_eq_getElem_cons h, List.take_append_drop]
  have e2 : tkV xs = tkV (xs.take k) ++ (xs[k].cells ++ tkV (xs.drop (k + 1))) := by
    conv => lhs; rw [e]
    rw [tkV_app]; rfl
  have hl : (tkV (xs.take k)).length = k * 4 := by rw [tkV_len, List.length_take, Nat.min_eq_left (by omega)]
  rw [e2, List.getElem?_append_right (by omega), hl, Nat.add_sub_cancel_left, List.getElem?_append_left (by rw [Tk.cells_len]; exact hj)]
/-- A row that reads as Dustings, at whatever address if there are none. -/
def TkR (w : World) (A : Option Addr) (xs : List Tk) : Prop :=
  ∀ k (h : k < xs.length), ∃ b off, A = some ⟨b, off, none⟩ ∧ w.rangeAt b (off + k * 4) xs[k].cells
theorem TkR.below {w w' : World} {A : Option Addr} {xs : List Tk} (h : TkR w A xs) (hb : Below w.heap.size w w') : TkR w' A xs := fun k hk => by
  obtain ⟨b, off, e, hr⟩ := h k hk
  exact ⟨b, off, e, rangeAt_below hr hb (rangeAt_lt hr (by simp [Tk.cells]))⟩
theorem TkR.lower {B : Nat} {w w' : World} {A : Option Addr} {xs : List Tk} (h : TkR w A xs) (hb : Below B w w') (hA : ∀ b off, A = some ⟨b, off, none⟩ → b < B) : TkR w' A xs := fun k hk => by
  obtain ⟨b, off, e, hr⟩ := h k hk
  exact ⟨b, off, e, rangeAt_below hr hb (hA b off e)⟩
theorem TkR.nil (w : World) (A : Option Addr) : TkR w A [] := fun k hk => absurd hk (by simp)
theorem TkR.take {w : World} {A : Option Addr} {xs : List Tk} (h : TkR w A xs) (m : Nat) : TkR w A (xs.take m) := fun k hk => by
  have hk2 : k < xs.length := by rw [List.length_take] at hk; omega
  obtain ⟨b, off, e, hr⟩ := h k hk2
  exact ⟨b, off, e, by rw [List.getElem_take]; exact hr⟩
theorem BlkV.tkR {w : World} {g : Nat} {t : TypeId} {xs : List Tk} (h : BlkV w g t (tkV xs)) : TkR w (some ⟨g, 0, none⟩) xs := fun k hk => ⟨g, 0, rfl, fun j v hv => by
  rw [Nat.zero_add, h.cell]
  have hj : j < 4 := (List.getElem?_eq_some_iff.1 hv).1
  rw [tkV_get xs k hk j hj]
  exact hv⟩
theorem tkset (cs : List Value) (o : Nat) (a : Tk) (h : o + 4 ≤ cs.length) : ((((cs.set (o) (.int .i64 a.aw)).set (o + 1) (.int .i64 a.fr)).set (o + 2) (.int .i64 a.un)).set (o + 3) (.int .i64 a.du)) = cs.take o ++ a.cells ++ cs.drop (o + 4) := by
  apply List.ext_getElem?
  intro i
  have hl : (cs.take o ++ a.cells).length = o + 4 := by simp [Tk.cells_len]; omega
  by_cases h1 : i < o
  · rw [List.getElem?_append_left (by omega), List.getElem?_append_left (by simp; omega), List.getElem?_take, if_pos h1]
    repeat rw [List.getElem?_set_ne (by omega)]
  · by_cases h2 : i < o + 4
    · rw [List.getElem?_append_left (by omega), List.getElem?_append_right (by simp; omega), List.length_take, Nat.min_eq_left (by omega)]
      obtain ⟨j, rfl⟩ : ∃ j, i = o + j := ⟨i - o, by omega⟩
      rw [Nat.add_sub_cancel_left]
      have hj : j < 4 := by omega
      match j, hj with
      | 0, _ | 1, _ | 2, _ | 3, _ => simp [List.getElem?_set, Tk.cells]; omega
    · rw [List.getElem?_append_right (by omega), hl, List.getElem?_drop, show o + 4 + (i - (o + 4)) = i by omega]
      repeat rw [List.getElem?_set_ne (by omega)]
theorem BlkV.tkset {w : World} {g : Nat} {t : TypeId} {cs : List Value} (h : BlkV w g t cs) (o : Nat) (a : Tk) (ho : o + 4 ≤ cs.length) : BlkV ((((w.setCell ⟨g, o, none⟩ (.int .i64 a.aw)).setCell ⟨g, o + 1, none⟩ (.int .i64 a.fr)).setCell ⟨g, o + 2, none⟩ (.int .i64 a.un)).setCell ⟨g, o + 3, none⟩ (.int .i64 a.du)) g t (cs.take o ++ a.cells ++ cs.drop (o + 4)) := by
  have := ((((h.setC (o) (.int .i64 a.aw)).setC (o + 1) (.int .i64 a.fr)).setC (o + 2) (.int .i64 a.un)).setC (o + 3) (.int .i64 a.du))
  rwa [Go.Proofs.YtnlkikdgffaeeaaDoor.tkset cs o a ho] at this
theorem below_tkset {B : Nat} {w0 w : World} (h : Below B w0 w) {g : Nat} (hg : B ≤ g) (o : Nat) (a : Tk) : Below B w0 ((((w.setCell ⟨g, o, none⟩ (.int .i64 a.aw)).setCell ⟨g, o + 1, none⟩ (.int .i64 a.fr)).setCell ⟨g, o + 2, none⟩ (.int .i64 a.un)).setCell ⟨g, o + 3, none⟩ (.int .i64 a.du)) :=
  ((((h.setCell (p := ⟨g, o, none⟩) hg _).setCell (p := ⟨g, o + 1, none⟩) hg _).setCell (p := ⟨g, o + 2, none⟩) hg _).setCell (p := ⟨g, o + 3, none⟩) hg _)
theorem BlkV.tkcells {w : World} {g : Nat} {t : TypeId} {xs : List Tk} (h : BlkV w g t (tkV xs)) (k : Nat) (hk : k < xs.length) :
    (w.cell? ⟨g, k * 4, none⟩ = some (.int .i64 xs[k].aw) ∧ w.cell? ⟨g, k * 4 + 1, none⟩ = some (.int .i64 xs[k].fr) ∧ w.cell? ⟨g, k * 4 + 2, none⟩ = some (.int .i64 xs[k].un) ∧ w.cell? ⟨g, k * 4 + 3, none⟩ = some (.int .i64 xs[k].du)) ∧ (w.frozen? ⟨g, k * 4, none⟩ = false ∧ w.frozen? ⟨g, k * 4 + 1, none⟩ = false ∧ w.frozen? ⟨g, k * 4 + 2, none⟩ = false ∧ w.frozen? ⟨g, k * 4 + 3, none⟩ = false) := by
  have e : ∀ j, j < 4 → w.cell? ⟨g, k * 4 + j, none⟩ = xs[k].cells[j]? := fun j hj => by rw [h.cell, tkV_get xs k hk j hj]
  exact ⟨⟨e 0 (by omega), e 1 (by omega), e 2 (by omega), e 3 (by omega)⟩, ⟨h.frozen _, h.frozen _, h.frozen _, h.frozen _⟩⟩
theorem tk_put (xs : List Tk) (k : Nat) (h : k < xs.length) :
    (tkV (xs.take k ++ List.replicate (xs.length - k) Tk.none)).take (k * 4) ++ xs[k].cells ++ (tkV (xs.take k ++ List.replicate (xs.length - k) Tk.none)).drop (k * 4 + 4) = tkV (xs.take (k + 1) ++ List.replicate (xs.length - (k + 1)) Tk.none) := by
  have hl : (tkV (xs.take k)).length = k * 4 := by rw [tkV_len, List.length_take, Nat.min_eq_left (by omega)]
  have e : xs.length - k = (xs.length - (k + 1)) + 1 := by omega
  have e2 : xs.take (k + 1) = xs.take k ++ [xs[k]] := List.take_succ_eq_append_getElem h
  rw [tkV_app, List.take_append_of_le_length (by omega), List.take_of_length_le (by omega), e, List.replicate_succ]
  rw [show tkV (Tk.none :: List.replicate (xs.length - (k + 1)) Tk.none) = Tk.none.cells ++ tkV (List.replicate (xs.length - (k + 1)) Tk.none) from rfl, ← List.append_assoc, List.drop_append_of_le_length (by simp [hl, Tk.cells_len]),
    List.drop_of_length_le (by simp [hl, Tk.cells_len]), List.nil_append, e2, tkV_app, tkV_app]
  rw [show tkV [xs[k]] = xs[k].cells by simp [tkV]]
theorem tk_made (n : Nat) : (madeCells (Tk.none.cells.toArray) (n * 4)).toList = tkV (List.replicate n Tk.none) := by
  apply List.ext_getElem?
  intro i
  by_cases h : i < n * 4
  · have hq : i / 4 < n := by omega
    have e : (tkV (List.replicate n Tk.none))[i]? = Tk.none.cells[i % 4]? := by
      have := tkV_get (List.replicate n Tk.none) (i / 4) (by simpa using hq) (i % 4) (Nat.mod_lt _ (by omega))
      rw [show i / 4 * 4 + i % 4 = i by omega] at this
      rw [this, List.getElem_replicate]
    rw [e]
    simp [madeCells, h, Tk.cells]
    rw [List.getElem?_eq_getElem (by simp; omega)]
    simp
  · rw [List.getElem?_eq_none (by simp [madeCells]; omega), List.getElem?_eq_none (by rw [tkV_len]; simp; omega)]
theorem tk_lay {w : World} {b o : Nat} {a : Tk} (h : w.rangeAt b o a.cells) : w.cell? ⟨b, o, none⟩ = some (.int .i64 a.aw) ∧ w.cell? ⟨b, o + 1, none⟩ = some (.int .i64 a.fr) ∧ w.cell? ⟨b, o + 2, none⟩ = some (.int .i64 a.un) ∧ w.cell? ⟨b, o + 3, none⟩ = some (.int .i64 a.du) :=
  ⟨h 0 _ rfl, h 1 _ rfl, h 2 _ rfl, h 3 _ rfl⟩
/-- One that came in: its texts are no longer than any is, its numbers are int64s. -/
def Tk.fits (a : Tk) : Prop := (Lit.int .i64 a.aw).wf = true ∧ (Lit.int .i64 a.fr).wf = true ∧ (Lit.int .i64 a.un).wf = true ∧ (Lit.int .i64 a.du).wf = true
end Go.Proofs.YtnlkikdgffaeeaaDoor
