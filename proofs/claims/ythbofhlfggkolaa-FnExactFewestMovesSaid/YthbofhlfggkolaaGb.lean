/-
  A slice of airways that came in, opened to cells. Conditions: those that each theorem states.
-/
import Derived.Test.YthbofhlfggkolaaGa
import Derived.Deep.Slices
import Derived.Deep.Fields
import Derived.ChangeSame
namespace Go.Proofs.Ythbofhlfggkolaa
open Go.RowKit Go.ChangeShapes Go.WideShapes Go.Deep
set_option linter.unusedVariables false

section
variable {H : Type} {enc : TypeId × Value → H} {P : Program} {w : World} {base : Nat} {spare : Nat → Bool} {held : Bool}
/-- A slice of structs of one-cell fields that came in: each element's cells, and each field's reading. -/
theorem open_elems {t e : TypeId} {fs : Array Field} {fuel : Nat} {cs : List Value} {x : DataW H × List MemPlace} (ht : P.underlying t = some (.slice e)) (he : P.underlying e = some (.struct fs))
    (hone : oneCellFields P fs = true) (hC : P.cellsOf e = fs.size) (h : DataW.trod enc P w base spare held fuel t cs = some x) :
    ∃ (A : Option Addr) (len cap : Nat), cs = [.slice A len cap] ∧ len ≤ cap ∧ cap ≤ maxLen ∧ ∀ i, i < len → ∃ (a : Addr) (l : List Value), A = some a ∧ l.length = fs.size ∧ (∀ (j : Nat) (v : Value), l[j]? = some v → w.cell? ((a.add (i * fs.size)).add j) = some v) ∧
      ∀ (j : Nat) (f : Field), fs[j]? = some f → ∃ (c : Value) (n : Nat) (y : DataW H × List MemPlace), l[j]? = some c ∧ DataW.trod enc P w base spare held n f.type [c] = some y := by
  rcases open_slice ht h with ⟨rfl, _⟩ | ⟨a, len, cap, m, n, D, Pl, rfl, hb, hl, hm, hmm, _, hi⟩
  · exact ⟨none, 0, 0, rfl, Nat.le_refl _, Nat.zero_le _, fun i hi => absurd hi (by omega)⟩
  · refine ⟨some a, len, cap, rfl, hl, hm, fun i hil => ?_⟩
    have him : i < m := by rw [hmm]; split <;> omega
    obtain ⟨cs', hc, ht'⟩ := hi i him
    obtain ⟨_, hcl, hat⟩ := World.cells?_some hc
    obtain ⟨ys, n', _, _, _, hyl, hf⟩ := DataW.trod_struct he ht'
    rw [hC] at hat hcl
    refine ⟨a, cs', rfl, hcl, fun j v hv => ?_, fun j f hj => ?_⟩
    · have hjl : j < cs'.length := (List.getElem?_eq_some_iff.1 hv).1
      rw [← hv, ← hat j (by omega)]
    · obtain ⟨ho, hk⟩ := hone_of hone j f hj
      have hjl : j < fs.size := (Array.getElem?_eq_some_iff.1 hj).1
      have h1 := hf j f hj
      rw [ho, hk, show (cs'.drop j).take 1 = [cs'[j]'(by omega)] by rw [List.drop_eq_getElem_cons (by omega)]; rfl] at h1
      have hys : ys[j]? = some (ys[j]'(by omega)) := List.getElem?_eq_getElem (by omega)
      exact ⟨_, _, _, List.getElem?_eq_getElem (by omega), h1.trans hys⟩
end
theorem spot_none {w : World} {a : Addr} {v : Value} (h : w.cell? (a.add 0) = some v) : ∃ b off, a = ⟨b, off, none⟩ := by
  obtain ⟨b, off, sp⟩ := a
  cases sp with
  | none => exact ⟨b, off, rfl⟩
  | some q =>
    unfold Addr.add World.cell? at h
    rw [if_pos rfl] at h
    cases hq : w.heap[b]? with
    | none => simp [hq] at h
    | some o => cases o <;> simp [hq] at h
theorem add_lay (b off i : Nat) : (⟨b, off, none⟩ : Addr).add i = ⟨b, off + i, none⟩ := by
  unfold Addr.add
  split
  · rename_i h; subst h; rfl
  · rfl
/-- An airway that came in: its text is no longer than any is, its numbers are int64s. -/
def Aw.fits (a : Aw) : Prop := a.s.size ≤ maxLen ∧ (Lit.int .i64 a.f).wf = true ∧ (Lit.int .i64 a.t).wf = true ∧ (Lit.int .i64 a.l).wf = true ∧ (Lit.int .i64 a.se).wf = true ∧ (Lit.int .i64 a.fr).wf = true ∧ (Lit.int .i64 a.sh).wf = true
theorem open_aws {H : Type} {enc : TypeId × Value → H} {w : World} {base : Nat} {spare : Nat → Bool} {held : Bool} {fuel : Nat} {cs : List Value} {x : DataW H × List MemPlace}
    (h : DataW.trod enc Try.prog w base spare held fuel 22 cs = some x) :
    ∃ (A : Option Addr) (cap : Nat) (xs : List Aw), cs = [.slice A xs.length cap] ∧ xs.length ≤ maxLen ∧ AwR w A xs ∧ ∀ a ∈ xs, a.fits := by
  obtain ⟨A, len, cap, rfl, hl, hc, hi⟩ := open_elems Try.underlying22 Try.underlying101 (by kernel_rfl) (by kernel_rfl) h
  have hx : ∀ i, i < len → ∃ a : Aw, a.fits ∧ ∃ b off, A = some ⟨b, off, none⟩ ∧ w.rangeAt b (off + i * 7) a.cells := by
    intro i hil
    obtain ⟨a, l, hA, hll, hcell, hf⟩ := hi i hil
    obtain ⟨c0, n0, y0, e0, t0⟩ := hf 0 _ rfl
    obtain ⟨c1, n1, y1, e1, t1⟩ := hf 1 _ rfl
    obtain ⟨c2, n2, y2, e2, t2⟩ := hf 2 _ rfl
    obtain ⟨c3, n3, y3, e3, t3⟩ := hf 3 _ rfl
    obtain ⟨c4, n4, y4, e4, t4⟩ := hf 4 _ rfl
    obtain ⟨c5, n5, y5, e5, t5⟩ := hf 5 _ rfl
    obtain ⟨c6, n6, y6, e6, t6⟩ := hf 6 _ rfl
    obtain ⟨x0, q0, _, w0⟩ := DataW.trod_string Try.underlying9 t0
    obtain ⟨x1, q1, _, w1⟩ := DataW.trod_int Try.underlying2 t1
    obtain ⟨x2, q2, _, w2⟩ := DataW.trod_int Try.underlying2 t2
    obtain ⟨x3, q3, _, w3⟩ := DataW.trod_int Try.underlying2 t3
    obtain ⟨x4, q4, _, w4⟩ := DataW.trod_int Try.underlying2 t4
    obtain ⟨x5, q5, _, w5⟩ := DataW.trod_int Try.underlying2 t5
    obtain ⟨x6, q6, _, w6⟩ := DataW.trod_int Try.underlying2 t6
    obtain rfl := List.cons.inj q0 |>.1
    obtain rfl := List.cons.inj q1 |>.1
    obtain rfl := List.cons.inj q2 |>.1
    obtain rfl := List.cons.inj q3 |>.1
    obtain rfl := List.cons.inj q4 |>.1
    obtain rfl := List.cons.inj q5 |>.1
    obtain rfl := List.cons.inj q6 |>.1
    obtain rfl : l = [.string x0, .int .i64 x1, .int .i64 x2, .int .i64 x3, .int .i64 x4, .int .i64 x5, .int .i64 x6] := by
      match l, hll, e0, e1, e2, e3, e4, e5, e6 with
      | [z0, z1, z2, z3, z4, z5, z6], _, h0, h1, h2, h3, h4, h5, h6 => simp at h0 h1 h2 h3 h4 h5 h6; simp [h0, h1, h2, h3, h4, h5, h6]
    have hsp : ∃ b off, a = ⟨b, off, none⟩ := by
      obtain ⟨a', l', hA', _, hc', hf'⟩ := hi 0 (by omega)
      obtain rfl : a = a' := Option.some.inj (hA.symm.trans hA')
      obtain ⟨c, _, _, ec, _⟩ := hf' 0 _ rfl
      have := hc' 0 c ec
      rw [Nat.zero_mul, show a.add 0 = a by simp [Addr.add]] at this
      exact spot_none this
    obtain ⟨b, off, rfl⟩ := hsp
    refine ⟨⟨x0, x1, x2, x3, x4, x5, x6⟩, ⟨w0, w1, w2, w3, w4, w5, w6⟩, b, off, hA, fun j v hv => ?_⟩
    have := hcell j v hv
    rw [add_lay, add_lay] at this
    exact this
  refine ⟨A, cap, (List.range len).map (fun i => if h : i < len then Classical.choose (hx i h) else Aw.none), by simp, by simp; omega, fun k hk => ?_, fun a ha => ?_⟩
  · have hk' : k < len := by simpa using hk
    have hs := (Classical.choose_spec (hx k hk')).2
    simpa [hk'] using hs
  · obtain ⟨i, hi', rfl⟩ := List.mem_map.1 ha
    have hil : i < len := by simpa using hi'
    rw [dif_pos hil]
    exact (Classical.choose_spec (hx i hil)).1
end Go.Proofs.Ythbofhlfggkolaa
