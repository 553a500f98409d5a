/-
  Contracts of the laws' helpers on mines: sizes, copies, comparisons. Conditions: those that each theorem states. Conditions: those that each theorem states.
-/
import Derived.Test.YtoojndohddellaaDoorGb
import Derived.Test.YtoojndohddellaaDoorDc
import Derived.Deep.OwnRows
import Derived.OwnWalk
import Derived.WalkSmall
namespace Go.Proofs.YtoojndohddellaaDoor
open Go.RowKit
set_option linter.unusedVariables false

/-- What is left of a size behind texts. -/
def szGo (left : Int) : List Aw → Int
  | [] => left
  | a :: r => if left - a.s.size < 0 then -1 else szGo (left - a.s.size) r
def szL (left : Int) (xs : List Aw) : Int := if left - xs.length < 0 then -1 else szGo (left - xs.length) xs
theorem szGo_le : ∀ (xs : List Aw) (left : Int), 0 ≤ left → -1 ≤ szGo left xs ∧ szGo left xs ≤ left
  | [], left, h => ⟨by simp only [szGo]; omega, Int.le_refl _⟩
  | a :: r, left, h => by
    simp only [szGo]
    split
    · omega
    · have := szGo_le r (left - a.s.size) (by omega); omega
theorem szL_bd {left : Int} {xs : List Aw} (h0 : 0 ≤ left) (h : 0 ≤ szL left xs) : (xs.length : Int) ≤ left ∧ ∀ a ∈ xs, (a.s.size : Int) ≤ left := by
  unfold szL at h
  split at h
  · omega
  · rename_i hl
    refine ⟨by omega, ?_⟩
    have key : ∀ (xs : List Aw) (left : Int), 0 ≤ left → 0 ≤ szGo left xs → ∀ a ∈ xs, (a.s.size : Int) ≤ left := by
      intro xs
      induction xs with
      | nil => intro _ _ _ a ha; cases ha
      | cons x r ih =>
        intro left h0 h a ha
        simp only [szGo] at h
        split at h
        · omega
        · rcases List.mem_cons.1 ha with rfl | ha
          · omega
          · have := ih _ (by omega) h a ha; omega
    intro a ha
    have := key xs _ (by omega) h a ha
    omega
theorem szL_le {left : Int} {xs : List Aw} (h0 : 0 ≤ left) : -1 ≤ szL left xs ∧ szL left xs ≤ left := by
  unfold szL
  split
  · omega
  · have := szGo_le xs (left - xs.length) (by omega); omega
theorem lay_row {w : World} {b o : Nat} {a : Aw} (h : w.rangeAt b o a.cells) :
    (w.cell? ⟨b, o, none⟩ = some (.string a.s) ∧ w.cell? ⟨b, o + 1, none⟩ = some (.int .i64 a.f) ∧ w.cell? ⟨b, o + 2, none⟩ = some (.int .i64 a.t) ∧ w.cell? ⟨b, o + 3, none⟩ = some (.int .i64 a.l)) ∧
    w.cell? ⟨b, o + 4, none⟩ = some (.int .i64 a.se) ∧ w.cell? ⟨b, o + 5, none⟩ = some (.int .i64 a.fr) ∧ w.cell? ⟨b, o + 6, none⟩ = some (.int .i64 a.sh) :=
  ⟨⟨h 0 _ rfl, h 1 _ rfl, h 2 _ rfl, h 3 _ rfl⟩, h 4 _ rfl, h 5 _ rfl, h 6 _ rfl⟩
theorem made_aws (n : Nat) : (madeCells Aw.none.cells.toArray (n * 7)).toList = awsV (List.replicate n Aw.none) := aws_made n
theorem run_make_rows {P : Program} {t e : TypeId} {i : TypeInfo} {z : Value} (ht : P.underlying t = some (.slice e)) (hi : P.info? e = some i) (hz : i.zero = some z)
    (kl kc : IntKind) (n : Nat) (hbytes : i.bytes * n ≤ 281474976710656) (h63 : n ≤ 9223372036854775807) (w : World) :
    (Instr.makeSlice t (.int kl (n : Int)) (.int kc (n : Int))).run P w = .ok (.slice (some ⟨w.heap.size, 0, none⟩) n n) (w.alloc (.cells (madeCells z.cells (n * i.size)) e)) := by
  have hb : (i.bytes : Int) * (n : Int) ≤ 281474976710656 := by
    have h : ((i.bytes * n : Nat) : Int) ≤ 281474976710656 := by omega
    rwa [Int.natCast_mul] at h
  have hr := run_make (P := P) w t e i z ht hi hz kl kc (n : Int) (n : Int) (by omega) (by omega) hb (by omega)
  simpa using hr
end Go.Proofs.YtoojndohddellaaDoor
