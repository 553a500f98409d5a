/-
  Contracts of chapter 3: resistances, volumes, speeds, times, limits of flows, airways that are turned; the model's and the program's. Conditions: those that each theorem states.
-/
import Derived.Test.YtkldgmgjbboiaacDoorDc
namespace Go.Proofs.YtkldgmgjbboiaacDoor
open Go.RowKit
set_option linter.unusedVariables false

theorem max1_cases (x : Int) (h : 0 ≤ x) : (x ≤ 0 ∧ max1 x = 1) ∨ (x = 1 ∧ max1 x = 1) ∨ (1 < x ∧ max1 x = x) := by unfold max1; split <;> omega
theorem boxed (s : ByteArray) (f t l se fr sh : Int) (w : World) : AwAt (w.alloc (.cells #[.string s, .int .i64 f, .int .i64 t, .int .i64 l, .int .i64 se, .int .i64 fr, .int .i64 sh] 26)) w.heap.size s f t l se fr sh := by unfold AwAt; simp
/-- An airway's cells stay where nothing old has changed. -/
theorem AwAt.below {w w' : World} {b : Nat} {s : ByteArray} {f t l se fr sh : Int} (h : AwAt w b s f t l se fr sh) (hb : Below w.heap.size w w') (hs : b < w.heap.size) : AwAt w' b s f t l se fr sh := by
  obtain ⟨⟨c0, c1, c2, c3⟩, c4, c5, c6⟩ := h
  have hc := (bcell hb).1
  exact ⟨⟨(hc _ _ hs).trans c0, (hc _ _ hs).trans c1, (hc _ _ hs).trans c2, (hc _ _ hs).trans c3⟩, (hc _ _ hs).trans c4, (hc _ _ hs).trans c5, (hc _ _ hs).trans c6⟩
theorem below_drew {w w' : World} {n : Nat} (h : w' = w.drewN n) : Below w.heap.size w w' := h ▸ below_drewN' (Below.refl _ _) n
theorem l03Ok_below (b : Nat) (s : ByteArray) (f t l se fr sh : Int) (w : World) (hs : s.size ≤ maxLen) (hc : AwAt w b s f t l se fr sh) :
    Calls Tryd.prog 40 #[.pointer (some ⟨b, 0, none⟩)] w fun e w' => e = .returned (.bool (awOk s f t l se fr sh)) ∧ Below w.heap.size w w' :=
  (l03Ok_any b s f t l se fr sh w hs hc).mono fun _ _ ⟨h, _, e⟩ => ⟨h, below_drew e⟩
end Go.Proofs.YtkldgmgjbboiaacDoor
