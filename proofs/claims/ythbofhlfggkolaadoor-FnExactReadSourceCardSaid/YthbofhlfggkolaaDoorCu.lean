/-
  The call of strings.Cut at a blank. Conditions: those that each theorem states.
-/
import Derived.Test.YthbofhlfggkolaaDoorNl
import Derived.Test.YthbofhlfggkolaaDoorNg
import Derived.Test.YthbofhlfggkolaaDoorShE
namespace Go.Proofs.YthbofhlfggkolaaDoor
open Go.RowKit
set_option linter.unusedVariables false
set_option linter.unusedSimpArgs false

theorem below_dr3 {B : Nat} {a w : World} (h : Below B a w) (n : Nat) : Below B a (w.drewN n) := ⟨h.os, h.tape, h.output, h.size, h.block⟩
theorem cut_call (s : ByteArray) (w : World) (hs : s.size ≤ 1048576) (hM : MaxV w) : Calls Tryd.prog 63 #[.string s, .string ⟨#[32]⟩] w fun e w' => ∃ y b, e = .returned (.tuple #[.string (cutA s.data.toList), .string y, .bool b]) ∧ (y.data.toList = cutN s.data.toList ∧ y.size ≤ 1048576) ∧ Below w.heap.size w w' := by
  obtain ⟨m, hm⟩ := hM
  refine (Tryd.strings_Cut s ⟨#[32]⟩ m w (by omega) hm).mono ?_
  rintro e w' ⟨rfl, n, rfl⟩
  have hl := (cut_len s.data.toList).2
  have hsz : s.data.toList.length = s.size := by simp
  exact ⟨⟨(Lib.cut s.data.toList [32]).2.1.toArray⟩, _, rfl, ⟨rfl, by simp only [ByteArray.size, List.size_toArray]; omega⟩, below_dr3 (Below.refl _ _) n⟩
end Go.Proofs.YthbofhlfggkolaaDoor
