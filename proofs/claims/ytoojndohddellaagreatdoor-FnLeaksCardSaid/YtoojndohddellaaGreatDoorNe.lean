/-
  Contracts of texts that are divided at a byte, chapter 1: the model's. Conditions: those that each theorem states.
-/
import Derived.Test.YtoojndohddellaaGreatDoorNb
import Derived.Test.YtoojndohddellaaGreatDoorNd
import Derived.Laws.OwnMore
import Derived.Deep.AppendLies
import Derived.Deep.OwnRows
import Derived.OwnWalk
import Derived.WalkSmall
namespace Go.Proofs.YtoojndohddellaaGreatDoor
open Go.RowKit
set_option linter.unusedVariables false
set_option linter.unusedSimpArgs false

theorem info_strN : (Tryz.prog.info? 9).map (fun i => (i.zero, i.size, i.bytes)) = some (some (.string ⟨#[]⟩), 1, 16) := by kernel_rfl
def strsN (l : List ByteArray) : List Value := l.map Value.string
theorem below_dN {B : Nat} {a w : World} (h : Below B a w) (n : Nat) : Below B a (w.drewN n) := ⟨h.os, h.tape, h.output, h.size, h.block⟩
/-- What l01Split has done. -/
def SplitR (s : ByteArray) (c : UInt8) (f i : Nat) (done : List ByteArray) : Prop :=
  f ≤ i ∧ i ≤ s.size ∧ done.length ≤ f ∧ (∀ k : Nat, k < i - f → (s.data.toList.drop f)[k]? ≠ some c) ∧ done.map (·.data.toList) ++ splitL c (s.data.toList.drop f) = splitL c s.data.toList
theorem split_start (s : ByteArray) (c : UInt8) : SplitR s c 0 0 [] := ⟨Nat.le_refl _, Nat.zero_le _, Nat.le_refl _, fun k hk => absurd hk (by omega), rfl⟩
theorem split_skip {s : ByteArray} {c : UInt8} {f i : Nat} {done : List ByteArray} (h : SplitR s c f i done) (hi : i < s.size) (hne : byteAt s i ≠ (c.toNat : Int)) : SplitR s c f (i + 1) done := by
  obtain ⟨h1, h2, h3, h4, h5⟩ := h
  refine ⟨by omega, by omega, h3, fun k hk => ?_, h5⟩
  by_cases e : k < i - f
  · exact h4 k e
  · obtain rfl : k = i - f := by omega
    rw [List.getElem?_drop, show f + (i - f) = i by omega]
    intro he
    apply hne
    unfold byteAt
    rw [List.getD_eq_getElem?_getD, he]
    rfl
theorem split_hit {s : ByteArray} {c : UInt8} {f i : Nat} {done : List ByteArray} (h : SplitR s c f i done) (hi : i < s.size) (he : byteAt s i = (c.toNat : Int)) : SplitR s c (i + 1) (i + 1) (done ++ [s.extract f i]) := by
  obtain ⟨h1, h2, h3, h4, h5⟩ := h
  have hl : i < s.data.toList.length := by simpa using hi
  have hc : (s.data.toList.drop f)[i - f]? = some c := by
    rw [List.getElem?_drop, show f + (i - f) = i by omega, List.getElem?_eq_getElem hl]
    congr 1
    apply UInt8.toNat_inj.1
    unfold byteAt at he
    rw [List.getD_eq_getElem?_getD, List.getElem?_eq_getElem hl] at he
    exact Int.ofNat.inj he
  rw [splitL_hit c (i - f) _ h4 hc, List.drop_drop, show f + (i - f + 1) = i + 1 by omega] at h5
  refine ⟨Nat.le_refl _, by omega, by simp; omega, fun k hk => absurd hk (by omega), ?_⟩
  rw [List.map_append, List.append_assoc, ← h5]
  simp [Lib.extract_data]
theorem split_end {s : ByteArray} {c : UInt8} {f : Nat} {done : List ByteArray} (h : SplitR s c f s.size done) : (done ++ [s.extract f s.size]).map (·.data.toList) = splitL c s.data.toList := by
  obtain ⟨h1, h2, h3, h4, h5⟩ := h
  have hsz : s.data.toList.length = s.size := by simp
  rw [splitL_miss c (s.data.toList.drop f) (fun k => by
    by_cases hk : k < s.size - f
    · exact h4 k hk
    · rw [List.getElem?_eq_none (by rw [List.length_drop]; omega)]; simp)] at h5
  rw [← h5, List.map_append]
  simp [Lib.extract_data]
  rw [List.take_of_length_le (by rw [List.length_drop]; omega)]
end Go.Proofs.YtoojndohddellaaGreatDoor
