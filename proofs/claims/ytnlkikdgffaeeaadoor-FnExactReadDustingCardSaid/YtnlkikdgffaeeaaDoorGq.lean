/-
  Words for slices of structs in memory: blocks of the call's own, slices that came in, rows that are made. Conditions: those that each theorem states.
-/
import Derived.Test.YtnlkikdgffaeeaaDoorDa
import Derived.Deep.MidRow
import Derived.Deep.LoopGhost
import Derived.Deep.AppendLies
import Derived.Deep.Slices
import Derived.Deep.Fields
import Derived.ChangeSame
import Derived.Deep.OwnRows
import Derived.OwnWalk
import Derived.WalkSmall
namespace Go.Proofs.YtnlkikdgffaeeaaDoor
open Go.RowKit Go.ChangeShapes Go.WideShapes Go.Deep
set_option linter.unusedVariables false

theorem rangeAt_lt {w : World} {b o : Nat} {cs : List Value} (h : w.rangeAt b o cs) (h0 : cs ≠ []) : b < w.heap.size := by
  cases cs with
  | nil => exact absurd rfl h0
  | cons v r => exact World.block_lt_of_cell? (a := ⟨b, o + 0, none⟩) _ (h 0 v rfl)
theorem rangeAt_below {w w' : World} {b o : Nat} {cs : List Value} {B : Nat} (h : w.rangeAt b o cs) (hb : Below B w w') (hB : b < B) : w'.rangeAt b o cs := fun j v hv =>
  (hb.cell (p := ⟨b, o + j, none⟩) hB).trans (h j v hv)
/-- Block g holds just these cells, none frozen. -/
def BlkV (w : World) (g : Nat) (t : TypeId) (cs : List Value) : Prop := w.heap[g]? = some (.cells cs.toArray t (0, 0))
theorem BlkV.lt {w : World} {g : Nat} {t : TypeId} {cs : List Value} (h : BlkV w g t cs) : g < w.heap.size := by
  rcases Nat.lt_or_ge g w.heap.size with hlt | hge
  · exact hlt
  · unfold BlkV at h; rw [Array.getElem?_eq_none hge] at h; cases h
theorem BlkV.cell {w : World} {g : Nat} {t : TypeId} {cs : List Value} (h : BlkV w g t cs) (i : Nat) : w.cell? ⟨g, i, none⟩ = cs[i]? := by
  rw [cell_of_row w g i _ t (0, 0) h]; simp
theorem BlkV.frozen {w : World} {g : Nat} {t : TypeId} {cs : List Value} (h : BlkV w g t cs) (i : Nat) : w.frozen? ⟨g, i, none⟩ = false := by
  unfold BlkV at h
  simp [World.frozen?, h]
theorem BlkV.below {w w' : World} {g : Nat} {t : TypeId} {cs : List Value} {B : Nat} (h : BlkV w g t cs) (hb : Below B w w') (hg : g < B) : BlkV w' g t cs := (hb.block g hg).trans h
theorem heap_setRow (w : World) (g : Nat) (cs : Array Value) (k : Nat) (h : k ≠ g) : (w.setRow g cs).heap[k]? = w.heap[k]? := by
  show (w.heap.modify g _)[k]? = _
  rw [Array.getElem?_modify]
  simp [Ne.symm h]
theorem below_setRow {B : Nat} {a w : World} {g : Nat} (h : Below B a w) (hB : B ≤ g) (cs : Array Value) : Below B a (w.setRow g cs) :=
  ⟨h.os, h.tape, h.output, by simpa [World.setRow] using h.size, fun k hk => (heap_setRow w g cs k (by omega)).trans (h.block k hk)⟩
theorem setRow_size (w : World) (g : Nat) (cs : Array Value) : (w.setRow g cs).heap.size = w.heap.size := by simp [World.setRow]
/-- A struct is stored into the middle of a block that is known whole. -/
theorem run_storeAt_blk {P : Program} (w : World) (g o : Nat) (ty t : TypeId) (cur cells : List Value) (hg : BlkV w g t cur) (hfit : o + cells.length ≤ cur.length)
    (hi : (P.info? ty).map (·.size) = some cells.length) (h1 : ∀ v ∈ cells, v.oneCell' = true) :
    (Instr.storeAt ty (.pointer (some ⟨g, o, none⟩)) (.agg cells.toArray)).run P w = .ok () (w.setRow g (cur.take o ++ cells ++ cur.drop (o + cells.length)).toArray) := by
  have hst := run_storeCells_at P g o t cells 0 cur.toArray w hg (by simpa using hfit) h1
  simp only [Nat.add_zero] at hst
  cases hq : P.info? ty with
  | none => simp [hq] at hi
  | some i =>
    have hs : i.size = cells.length := by simpa [hq] using hi
    simp only [Instr.storeAt, Instr.sureAddr, Sem.run_bind, Sem.run_pure, Result.andThen_ok]
    simp [storeVar, sizeOf, typeInfo, hq, Value.cells, hs, hst]
theorem BlkV.setRow {w : World} {g : Nat} {t : TypeId} {cs : List Value} (h : BlkV w g t cs) (ds : List Value) : BlkV (w.setRow g ds.toArray) g t ds := setRow_heap w g _ _ t _ h
theorem BlkV.setRow_far {w : World} {g g' : Nat} {t : TypeId} {cs : List Value} (h : BlkV w g t cs) (hne : g ≠ g') (ds : Array Value) : BlkV (w.setRow g' ds) g t cs := (heap_setRow w g' ds g hne).trans h
theorem BlkV.setC {w : World} {g : Nat} {t : TypeId} {cs : List Value} (h : BlkV w g t cs) (i : Nat) (v : Value) : BlkV (w.setCell ⟨g, i, none⟩ v) g t (cs.set i v) := by
  unfold BlkV at h ⊢
  simp [World.setCell, Array.getElem?_modify, h]
theorem BlkV.setC_far {w : World} {g : Nat} {t : TypeId} {cs : List Value} (h : BlkV w g t cs) {p : Addr} (hp : g ≠ p.block) (v : Value) : BlkV (w.setCell p v) g t cs := (Below.heap_setCell w p v g hp).trans h
theorem set_split (cs : List Value) (o : Nat) (v : Value) (h : o < cs.length) : cs.set o v = cs.take o ++ v :: cs.drop (o + 1) := List.set_eq_take_append_cons_drop.trans (if_pos h)
section
variable {H : Type} {enc : TypeId × Value → H} {P : Program} {w : World} {base : Nat} {spare : Nat → Bool} {held : Bool}
/-- A slice of structs of one-cell fields that came in: each element's cells, and each field's reading. -/
theorem open_elems {t e : TypeId} {fs : Array Field} {fuel : Nat} {cs : List Value} {x : DataW H × List MemPlace} (ht : P.underlying t = some (.slice e)) (he : P.underlying e = some (.struct fs))
    (hone : oneCellFields P fs = true) (hC : P.cellsOf e = fs.size) (h : DataW.trod enc P w base spare held fuel t cs = some x) :
    ∃ (A : Option Addr) (len cap : Nat), cs = [.slice A len cap] ∧ len ≤ cap ∧ cap ≤ maxLen ∧ ∀ i, i < len → ∃ (a : Addr) (l : List Value), A = some a ∧ l.length = fs.size ∧ (∀ (j : Nat) (v : Value), l[j]? = some v → w.cell? ((a.add (i * fs.size)).add j) = some v) ∧
      ∀ (j : Nat) (f : Field), fs[j]? = some f → ∃ (c : Value) (n : Nat) (y : DataW H × List MemPlace), l[j]? = some c ∧ DataW.trod enc P w base spare held n f.type [c] = some y := by
  rcases open_slice ht h with ⟨rfl, _⟩ | ⟨a, len, cap, m, n, D, Pl, rfl, hb, hl, hm, hmm, _, hi⟩
  · exact ⟨none, 0, 0, rfl, Nat.le_refl _, Nat.zero_le _, fun i hi => absurd hi (by omega)⟩
  · refine ⟨some a, len, cap, rfl, hl, hm, fun i hil => ?_⟩
    have him : i < m := by rw [hmm]; split <;> omega
    obtain ⟨cs', hc, ht'⟩ := hi i him
    obtain ⟨_, hcl, hat⟩ := World.cells?_some hc
    obtain ⟨ys, n', _, _, _, hyl, hf⟩ := DataW.trod_struct he ht'
    rw [hC] at hat hcl
    refine ⟨a, cs', rfl, hcl, fun j v hv => ?_, fun j f hj => ?_⟩
    · have hjl : j < cs'.length := (List.getElem?_eq_some_iff.1 hv).1
      rw [← hv, ← hat j (by omega)]
    · obtain ⟨ho, hk⟩ := hone_of hone j f hj
      have hjl : j < fs.size := (Array.getElem?_eq_some_iff.1 hj).1
      have h1 := hf j f hj
      rw [ho, hk, show (cs'.drop j).take 1 = [cs'[j]'(by omega)] by rw [List.drop_eq_getElem_cons (by omega)]; rfl] at h1
      have hys : ys[j]? = some (ys[j]'(by omega)) := List.getElem?_eq_getElem (by omega)
      exact ⟨_, _, _, List.getElem?_eq_getElem (by omega), h1.trans hys⟩
end
theorem spot_none {w : World} {a : Addr} {v : Value} (h : w.cell? (a.add 0) = some v) : ∃ b off, a = ⟨b, off, none⟩ := by
  obtain ⟨b, off, sp⟩ := a
  cases sp with
  | none => exact ⟨b, off, rfl⟩
  | some q =>
    unfold Addr.add World.cell? at h
    rw [if_pos rfl] at h
    cases hq : w.heap[b]? with
    | none => simp [hq] at h
    | some o => cases o <;> simp [hq] at h
theorem add_lay (b off i : Nat) : (⟨b, off, none⟩ : Addr).add i = ⟨b, off + i, none⟩ := by
  unfold Addr.add
  split
  · rename_i h; subst h; rfl
  · rfl
theorem run_make_rows {P : Program} {t e : TypeId} {i : TypeInfo} {z : Value} (ht : P.underlying t = some (.slice e)) (hi : P.info? e = some i) (hz : i.zero = some z)
    (kl kc : IntKind) (n : Nat) (hbytes : i.bytes * n ≤ 281474976710656) (h63 : n ≤ 9223372036854775807) (w : World) :
    (Instr.makeSlice t (.int kl (n : Int)) (.int kc (n : Int))).run P w = .ok (.slice (some ⟨w.heap.size, 0, none⟩) n n) (w.alloc (.cells (madeCells z.cells (n * i.size)) e)) := by
  have hb : (i.bytes : Int) * (n : Int) ≤ 281474976710656 := by
    have h : ((i.bytes * n : Nat) : Int) ≤ 281474976710656 := by omega
    rwa [Int.natCast_mul] at h
  have hr := run_make (P := P) w t e i z ht hi hz kl kc (n : Int) (n : Int) (by omega) (by omega) hb (by omega)
  simpa using hr
end Go.Proofs.YtnlkikdgffaeeaaDoor
