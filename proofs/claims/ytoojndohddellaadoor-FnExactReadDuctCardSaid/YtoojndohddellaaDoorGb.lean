/-
  A slice of airways that came in, opened to cells. Conditions: those that each theorem states.
-/
import Derived.Test.YtoojndohddellaaDoorGa
import Derived.Deep.Slices
import Derived.Deep.Fields
import Derived.ChangeSame
namespace Go.Proofs.YtoojndohddellaaDoor
open Go.RowKit Go.ChangeShapes Go.WideShapes Go.Deep
set_option linter.unusedVariables false

section
variable {H : Type} {enc : TypeId × Value → H} {P : Program} {w : World} {base : Nat} {spare : Nat → Bool} {held : Bool}
/-- A slice of structs of one-cell fields that came in: each element's cells, and each field's reading. -/
theorem open_elems {t e : TypeId} {fs : Array Field} {fuel : Nat} {cs : List Value} {x : DataW H × List MemPlace} (ht : P.underlying t = some (.slice e)) (he : P.underlying e = some (.struct fs))
    (hone : oneCellFields P fs = true) (hC : P.cellsOf e = fs.size) (h : DataW.trod enc P w base spare held fuel t cs = some x) :
    ∃ (A : Option Addr) (len cap : Nat), cs = [.slice A len cap] ∧ len ≤ cap ∧ cap ≤ maxLen ∧ ∀ i, i < len → ∃ (a : Addr) (l : List Value), A = some a ∧ l.length = fs.size ∧ (∀ (j : Nat) (v : Value), l[j]? = some v → w.cell? ((a.add (i * fs.size)).add j) = some v) ∧
      ∀ (j : Nat) (f : Field), fs[j]? = some f → ∃ (c : Value) (n : Nat) (y : DataW H × List MemPlace), l[j]? = some c ∧ DataW.trod enc P w base spare held n f.type [c] = some y := by
  rcases open_slice ht h with ⟨rfl, _⟩ | ⟨a, len, cap, m, n, D, Pl, rfl, hb, hl, hm, hmm, _, hi⟩
  · exact ⟨none, 0, 0, rfl, Nat.le_refl _, Nat.zero_le _, fun i hi => absurd hi (by omega)⟩
  · refine ⟨some a, len, cap, rfl, hl, hm, fun i hil => ?_⟩
    have him : i < m := by rw [hmm]; split <;> omega
    obtain ⟨cs', hc, ht'⟩ := hi i him
    obtain ⟨_, hcl, hat⟩ := World.cells?_some hc
    obtain ⟨ys, n', _, _, _, hyl, hf⟩ := DataW.trod_struct he ht'
    rw [hC] at hat hcl
    refine ⟨a, cs', rfl, hcl, fun j v hv => ?_, fun j f hj => ?_⟩
    · have hjl : j < cs'.length := (List.getElem?_eq_some_iff.1 hv).1
      rw [← hv, ← hat j (by omega)]
    · obtain ⟨ho, hk⟩ := hone_of hone j f hj
      have hjl : j < fs.size := (Array.getElem?_eq_some_iff.1 hj).1
      have h1 := hf j f hj
      rw [ho, hk, show (cs'.drop j).take 1 = [cs'[j]'(by omega)] by rw [List.drop_eq_getElem_cons (by omega)]; rfl] at h1
      have hys : ys[j]? = some (ys[j]'(by omega)) := List.getElem?_eq_getElem (by omega)
      exact ⟨_, _, _, List.getElem?_eq_getElem (by omega), h1.trans hys⟩
end
theorem spot_none {w : World} {a : Addr} {v : Value} (h : w.cell? (a.add 0) = some v) : ∃ b off, a = ⟨b, off, none⟩ := by
  obtain ⟨b, off, sp⟩ := a
  cases sp with
  | none => exact ⟨b, off, rfl⟩
  | some q =>
    unfold Addr.add World.cell? at h
    rw [if_pos rfl] at h
    cases hq : w.heap[b]? with
    | none => simp [hq] at h
    | some o => cases o <;> simp [hq] at h
theorem add_lay (b off i : Nat) : (⟨b, off, none⟩ : Addr).add i = ⟨b, off + i, none⟩ := by
  unfold Addr.add
  split
  · rename_i h; subst h; rfl
  · rfl
/-- An airway that came in: its text is no longer than any is, its numbers are int64s. -/
def Aw.fits (a : Aw) : Prop := a.s.size ≤ maxLen ∧ (Lit.int .i64 a.f).wf = true ∧ (Lit.int .i64 a.t).wf = true ∧ (Lit.int .i64 a.l).wf = true ∧ (Lit.int .i64 a.se).wf = true ∧ (Lit.int .i64 a.fr).wf = true ∧ (Lit.int .i64 a.sh).wf = true
end Go.Proofs.YtoojndohddellaaDoor
