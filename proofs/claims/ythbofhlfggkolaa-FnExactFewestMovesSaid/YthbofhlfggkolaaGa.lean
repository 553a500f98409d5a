/-
  Words for slices of airways in memory: a row that reads as a list, a block of the call's own. Conditions: those that each theorem states.
-/
import Derived.Test.YthbofhlfggkolaaDb
import Derived.Deep.MidRow
import Derived.Deep.LoopGhost
import Derived.Deep.AppendLies
namespace Go.Proofs.Ythbofhlfggkolaa
open Go.RowKit
set_option linter.unusedVariables false

/-- An airway. -/
structure Aw where
  s : ByteArray
  f : Int
  t : Int
  l : Int
  se : Int
  fr : Int
  sh : Int
def Aw.cells (a : Aw) : List Value := [.string a.s, .int .i64 a.f, .int .i64 a.t, .int .i64 a.l, .int .i64 a.se, .int .i64 a.fr, .int .i64 a.sh]
def Aw.ok (a : Aw) : Bool := awOk a.s a.f a.t a.l a.se a.fr a.sh
def Aw.none : Aw := ⟨⟨#[]⟩, 0, 0, 0, 0, 0, 0⟩
theorem Aw.cells_len (a : Aw) : a.cells.length = 7 := rfl
theorem Aw.cells_one (a : Aw) : ∀ v ∈ a.cells, v.oneCell' = true := by
  intro v hv
  simp only [Aw.cells, List.mem_cons, List.not_mem_nil, or_false] at hv
  rcases hv with rfl | rfl | rfl | rfl | rfl | rfl | rfl <;> rfl
/-- The cells of airways, one behind the other. -/
def awsV (xs : List Aw) : List Value := xs.flatMap Aw.cells
theorem awsV_len : ∀ xs : List Aw, (awsV xs).length = xs.length * 7
  | [] => rfl
  | a :: r => by
    show (a.cells ++ awsV r).length = _
    rw [List.length_append, awsV_len r, Aw.cells_len, List.length_cons]; omega
theorem awsV_app (a b : List Aw) : awsV (a ++ b) = awsV a ++ awsV b := by simp [awsV]
theorem awsV_get (xs : List Aw) (k : Nat) (h : k < xs.length) (j : Nat) (hj : j < 7) : (awsV xs)[k * 7 + j]? = xs[k].cells[j]? := by
  have e : xs = xs.take k ++ xs[k] :: xs.drop (k + 1) := by rw [← List.drop_eq_getElem_cons h, List.take_append_drop]
  have e2 : awsV xs = awsV (xs.take k) ++ (xs[k].cells ++ awsV (xs.drop (k + 1))) := by
    conv => lhs; rw [e]
    rw [awsV_app]; rfl
  have hl : (awsV (xs.take k)).length = k * 7 := by rw [awsV_len, List.length_take, Nat.min_eq_left (by omega)]
  rw [e2, List.getElem?_append_right (by omega), hl, Nat.add_sub_cancel_left, List.getElem?_append_left (by rw [Aw.cells_len]; exact hj)]
/-- A row that reads as airways, at whatever address if there are none. -/
def AwR (w : World) (A : Option Addr) (xs : List Aw) : Prop :=
  ∀ k (h : k < xs.length), ∃ b off, A = some ⟨b, off, none⟩ ∧ w.rangeAt b (off + k * 7) xs[k].cells
theorem rangeAt_lt {w : World} {b o : Nat} {cs : List Value} (h : w.rangeAt b o cs) (h0 : cs ≠ []) : b < w.heap.size := by
  cases cs with
  | nil => exact absurd rfl h0
  | cons v r => exact World.block_lt_of_cell? (a := ⟨b, o + 0, none⟩) _ (h 0 v rfl)
theorem rangeAt_below {w w' : World} {b o : Nat} {cs : List Value} {B : Nat} (h : w.rangeAt b o cs) (hb : Below B w w') (hB : b < B) : w'.rangeAt b o cs := fun j v hv =>
  (hb.cell (p := ⟨b, o + j, none⟩) hB).trans (h j v hv)
theorem AwR.below {w w' : World} {A : Option Addr} {xs : List Aw} (h : AwR w A xs) (hb : Below w.heap.size w w') : AwR w' A xs := fun k hk => by
  obtain ⟨b, off, e, hr⟩ := h k hk
  exact ⟨b, off, e, rangeAt_below hr hb (rangeAt_lt hr (by simp [Aw.cells]))⟩
theorem AwR.drewN {w : World} {A : Option Addr} {xs : List Aw} (h : AwR w A xs) (n : Nat) : AwR (w.drewN n) A xs := h
theorem AwR.nil (w : World) (A : Option Addr) : AwR w A [] := fun k hk => absurd hk (by simp)
/-- Block g holds just these cells, none frozen. -/
def BlkV (w : World) (g : Nat) (t : TypeId) (cs : List Value) : Prop := w.heap[g]? = some (.cells cs.toArray t (0, 0))
theorem BlkV.lt {w : World} {g : Nat} {t : TypeId} {cs : List Value} (h : BlkV w g t cs) : g < w.heap.size := by
  rcases Nat.lt_or_ge g w.heap.size with hlt | hge
  · exact hlt
  · unfold BlkV at h; rw [Array.getElem?_eq_none hge] at h; cases h
theorem BlkV.cell {w : World} {g : Nat} {t : TypeId} {cs : List Value} (h : BlkV w g t cs) (i : Nat) : w.cell? ⟨g, i, none⟩ = cs[i]? := by
  rw [cell_of_row w g i _ t (0, 0) h]; simp
theorem BlkV.frozen {w : World} {g : Nat} {t : TypeId} {cs : List Value} (h : BlkV w g t cs) (i : Nat) : w.frozen? ⟨g, i, none⟩ = false := by
  unfold BlkV at h
  simp [World.frozen?, h]
theorem BlkV.below {w w' : World} {g : Nat} {t : TypeId} {cs : List Value} {B : Nat} (h : BlkV w g t cs) (hb : Below B w w') (hg : g < B) : BlkV w' g t cs := (hb.block g hg).trans h
theorem BlkV.awr {w : World} {g : Nat} {t : TypeId} {xs : List Aw} (h : BlkV w g t (awsV xs)) : AwR w (some ⟨g, 0, none⟩) xs := fun k hk => ⟨g, 0, rfl, fun j v hv => by
  rw [Nat.zero_add, h.cell]
  have hj : j < 7 := (List.getElem?_eq_some_iff.1 hv).1
  rw [awsV_get xs k hk j hj]
  exact hv⟩
theorem heap_setRow (w : World) (g : Nat) (cs : Array Value) (k : Nat) (h : k ≠ g) : (w.setRow g cs).heap[k]? = w.heap[k]? := by
  show (w.heap.modify g _)[k]? = _
  rw [Array.getElem?_modify]
  simp [Ne.symm h]
theorem below_setRow {B : Nat} {a w : World} {g : Nat} (h : Below B a w) (hB : B ≤ g) (cs : Array Value) : Below B a (w.setRow g cs) :=
  ⟨h.os, h.tape, h.output, by simpa [World.setRow] using h.size, fun k hk => (heap_setRow w g cs k (by omega)).trans (h.block k hk)⟩
theorem setRow_size (w : World) (g : Nat) (cs : Array Value) : (w.setRow g cs).heap.size = w.heap.size := by simp [World.setRow]
/-- A struct is stored into the middle of a block that is known whole. -/
theorem run_storeAt_blk {P : Program} (w : World) (g o : Nat) (ty t : TypeId) (cur cells : List Value) (hg : BlkV w g t cur) (hfit : o + cells.length ≤ cur.length)
    (hi : (P.info? ty).map (·.size) = some cells.length) (h1 : ∀ v ∈ cells, v.oneCell' = true) :
    (Instr.storeAt ty (.pointer (some ⟨g, o, none⟩)) (.agg cells.toArray)).run P w = .ok () (w.setRow g (cur.take o ++ cells ++ cur.drop (o + cells.length)).toArray) := by
  have hst := run_storeCells_at P g o t cells 0 cur.toArray w hg (by simpa using hfit) h1
  simp only [Nat.add_zero] at hst
  cases hq : P.info? ty with
  | none => simp [hq] at hi
  | some i =>
    have hs : i.size = cells.length := by simpa [hq] using hi
    simp only [Instr.storeAt, Instr.sureAddr, Sem.run_bind, Sem.run_pure, Result.andThen_ok]
    simp [storeVar, sizeOf, typeInfo, hq, Value.cells, hs, hst]
theorem BlkV.setRow {w : World} {g : Nat} {t : TypeId} {cs : List Value} (h : BlkV w g t cs) (ds : List Value) : BlkV (w.setRow g ds.toArray) g t ds := setRow_heap w g _ _ t _ h
theorem BlkV.setRow_far {w : World} {g g' : Nat} {t : TypeId} {cs : List Value} (h : BlkV w g t cs) (hne : g ≠ g') (ds : Array Value) : BlkV (w.setRow g' ds) g t cs := (heap_setRow w g' ds g hne).trans h
theorem BlkV.setC {w : World} {g : Nat} {t : TypeId} {cs : List Value} (h : BlkV w g t cs) (i : Nat) (v : Value) : BlkV (w.setCell ⟨g, i, none⟩ v) g t (cs.set i v) := by
  unfold BlkV at h ⊢
  simp [World.setCell, Array.getElem?_modify, h]
theorem BlkV.setC_far {w : World} {g : Nat} {t : TypeId} {cs : List Value} (h : BlkV w g t cs) {p : Addr} (hp : g ≠ p.block) (v : Value) : BlkV (w.setCell p v) g t cs := (Below.heap_setCell w p v g hp).trans h
theorem set_split (cs : List Value) (o : Nat) (v : Value) (h : o < cs.length) : cs.set o v = cs.take o ++ v :: cs.drop (o + 1) := List.set_eq_take_append_cons_drop.trans (if_pos h)
theorem set7 (cs : List Value) (o : Nat) (a : Aw) (h : o + 7 ≤ cs.length) :
    ((((((cs.set o (.string a.s)).set (o + 1) (.int .i64 a.f)).set (o + 2) (.int .i64 a.t)).set (o + 3) (.int .i64 a.l)).set (o + 4) (.int .i64 a.se)).set (o + 5) (.int .i64 a.fr)).set (o + 6) (.int .i64 a.sh) = cs.take o ++ a.cells ++ cs.drop (o + 7) := by
  apply List.ext_getElem?
  intro i
  have hl : (cs.take o ++ a.cells).length = o + 7 := by simp [Aw.cells_len]; omega
  by_cases h1 : i < o
  · rw [List.getElem?_append_left (by omega), List.getElem?_append_left (by simp; omega), List.getElem?_take, if_pos h1]
    repeat rw [List.getElem?_set_ne (by omega)]
  · by_cases h2 : i < o + 7
    · rw [List.getElem?_append_left (by omega), List.getElem?_append_right (by simp; omega), List.length_take, Nat.min_eq_left (by omega)]
      obtain ⟨j, rfl⟩ : ∃ j, i = o + j := ⟨i - o, by omega⟩
      rw [Nat.add_sub_cancel_left]
      have hj : j < 7 := by omega
      match j, hj with
      | 0, _ | 1, _ | 2, _ | 3, _ | 4, _ | 5, _ | 6, _ => simp [List.getElem?_set, Aw.cells]; omega
    · rw [List.getElem?_append_right (by omega), hl, List.getElem?_drop, show o + 7 + (i - (o + 7)) = i by omega]
      repeat rw [List.getElem?_set_ne (by omega)]
theorem BlkV.set7 {w : World} {g : Nat} {t : TypeId} {cs : List Value} (h : BlkV w g t cs) (o : Nat) (a : Aw) (ho : o + 7 ≤ cs.length) :
    BlkV (((((((w.setCell ⟨g, o, none⟩ (.string a.s)).setCell ⟨g, o + 1, none⟩ (.int .i64 a.f)).setCell ⟨g, o + 2, none⟩ (.int .i64 a.t)).setCell ⟨g, o + 3, none⟩ (.int .i64 a.l)).setCell ⟨g, o + 4, none⟩ (.int .i64 a.se)).setCell ⟨g, o + 5, none⟩ (.int .i64 a.fr)).setCell ⟨g, o + 6, none⟩ (.int .i64 a.sh)) g t (cs.take o ++ a.cells ++ cs.drop (o + 7)) := by
  have := ((((((h.setC o (.string a.s)).setC (o + 1) (.int .i64 a.f)).setC (o + 2) (.int .i64 a.t)).setC (o + 3) (.int .i64 a.l)).setC (o + 4) (.int .i64 a.se)).setC (o + 5) (.int .i64 a.fr)).setC (o + 6) (.int .i64 a.sh)
  rwa [Go.Proofs.Ythbofhlfggkolaa.set7 cs o a ho] at this
theorem below_set7 {B : Nat} {w0 w : World} (h : Below B w0 w) {g : Nat} (hg : B ≤ g) (o : Nat) (a : Aw) :
    Below B w0 (((((((w.setCell ⟨g, o, none⟩ (.string a.s)).setCell ⟨g, o + 1, none⟩ (.int .i64 a.f)).setCell ⟨g, o + 2, none⟩ (.int .i64 a.t)).setCell ⟨g, o + 3, none⟩ (.int .i64 a.l)).setCell ⟨g, o + 4, none⟩ (.int .i64 a.se)).setCell ⟨g, o + 5, none⟩ (.int .i64 a.fr)).setCell ⟨g, o + 6, none⟩ (.int .i64 a.sh)) :=
  ((((((h.setCell (p := ⟨g, o, none⟩) hg _).setCell (p := ⟨g, o + 1, none⟩) hg _).setCell (p := ⟨g, o + 2, none⟩) hg _).setCell (p := ⟨g, o + 3, none⟩) hg _).setCell (p := ⟨g, o + 4, none⟩) hg _).setCell (p := ⟨g, o + 5, none⟩) hg _).setCell (p := ⟨g, o + 6, none⟩) hg _
/-- The cells of an airway that is not yet laid, in a block. -/
theorem BlkV.cells7 {w : World} {g : Nat} {t : TypeId} {xs : List Aw} (h : BlkV w g t (awsV xs)) (k : Nat) (hk : k < xs.length) :
    ((w.cell? ⟨g, k * 7, none⟩ = some (.string xs[k].s) ∧ w.cell? ⟨g, k * 7 + 1, none⟩ = some (.int .i64 xs[k].f) ∧ w.cell? ⟨g, k * 7 + 2, none⟩ = some (.int .i64 xs[k].t) ∧ w.cell? ⟨g, k * 7 + 3, none⟩ = some (.int .i64 xs[k].l)) ∧
    w.cell? ⟨g, k * 7 + 4, none⟩ = some (.int .i64 xs[k].se) ∧ w.cell? ⟨g, k * 7 + 5, none⟩ = some (.int .i64 xs[k].fr) ∧ w.cell? ⟨g, k * 7 + 6, none⟩ = some (.int .i64 xs[k].sh)) ∧
    ((w.frozen? ⟨g, k * 7, none⟩ = false ∧ w.frozen? ⟨g, k * 7 + 1, none⟩ = false ∧ w.frozen? ⟨g, k * 7 + 2, none⟩ = false ∧ w.frozen? ⟨g, k * 7 + 3, none⟩ = false) ∧ w.frozen? ⟨g, k * 7 + 4, none⟩ = false ∧ w.frozen? ⟨g, k * 7 + 5, none⟩ = false ∧ w.frozen? ⟨g, k * 7 + 6, none⟩ = false) := by
  have e : ∀ j, j < 7 → w.cell? ⟨g, k * 7 + j, none⟩ = xs[k].cells[j]? := fun j hj => by rw [h.cell, awsV_get xs k hk j hj]
  exact ⟨⟨⟨e 0 (by omega), e 1 (by omega), e 2 (by omega), e 3 (by omega)⟩, e 4 (by omega), e 5 (by omega), e 6 (by omega)⟩, ⟨h.frozen _, h.frozen _, h.frozen _, h.frozen _⟩, h.frozen _, h.frozen _, h.frozen _⟩
theorem aws_put (xs : List Aw) (k : Nat) (h : k < xs.length) :
    (awsV (xs.take k ++ List.replicate (xs.length - k) Aw.none)).take (k * 7) ++ xs[k].cells ++ (awsV (xs.take k ++ List.replicate (xs.length - k) Aw.none)).drop (k * 7 + 7) = awsV (xs.take (k + 1) ++ List.replicate (xs.length - (k + 1)) Aw.none) := by
  have hl : (awsV (xs.take k)).length = k * 7 := by rw [awsV_len, List.length_take, Nat.min_eq_left (by omega)]
  have e : xs.length - k = (xs.length - (k + 1)) + 1 := by omega
  have e2 : xs.take (k + 1) = xs.take k ++ [xs[k]] := List.take_succ_eq_append_getElem h
  rw [awsV_app, List.take_append_of_le_length (by omega), List.take_of_length_le (by omega), e, List.replicate_succ]
  rw [show awsV (Aw.none :: List.replicate (xs.length - (k + 1)) Aw.none) = Aw.none.cells ++ awsV (List.replicate (xs.length - (k + 1)) Aw.none) from rfl, ← List.append_assoc, List.drop_append_of_le_length (by simp [hl, Aw.cells_len]),
    List.drop_of_length_le (by simp [hl, Aw.cells_len]), List.nil_append, e2, awsV_app, awsV_app]
  rw [show awsV [xs[k]] = xs[k].cells by simp [awsV]]
theorem aws_made (n : Nat) : (madeCells (Aw.none.cells.toArray) (n * 7)).toList = awsV (List.replicate n Aw.none) := by
  apply List.ext_getElem?
  intro i
  by_cases h : i < n * 7
  · have hq : i / 7 < n := by omega
    have e : (awsV (List.replicate n Aw.none))[i]? = Aw.none.cells[i % 7]? := by
      have := awsV_get (List.replicate n Aw.none) (i / 7) (by simpa using hq) (i % 7) (Nat.mod_lt _ (by omega))
      rw [show i / 7 * 7 + i % 7 = i by omega] at this
      rw [this, List.getElem_replicate]
    rw [e]
    simp [madeCells, h, Aw.cells]
    rw [List.getElem?_eq_getElem (by simp; omega)]
    simp
  · rw [List.getElem?_eq_none (by simp [madeCells]; omega), List.getElem?_eq_none (by rw [awsV_len]; simp; omega)]
end Go.Proofs.Ythbofhlfggkolaa
