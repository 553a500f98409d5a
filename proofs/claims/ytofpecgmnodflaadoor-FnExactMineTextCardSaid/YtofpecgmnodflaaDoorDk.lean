/-
  Cells of an airway that stay, the model's test of an airway at a pointer. Conditions: those that each theorem states.
-/
import Derived.Test.YtofpecgmnodflaaDoorDb
namespace Go.Proofs.YtofpecgmnodflaaDoor
open Go.RowKit
set_option linter.unusedVariables false

theorem boxK (w : World) (o : Obj) : Below w.heap.size w (w.alloc o) := (Below.refl _ _).alloc (Nat.le_refl _) o
theorem awBoxed (s : ByteArray) (f t l se fr sh : Int) (w : World) : AwAt (w.alloc (.cells #[.string s, .int .i64 f, .int .i64 t, .int .i64 l, .int .i64 se, .int .i64 fr, .int .i64 sh] 61)) w.heap.size s f t l se fr sh := by unfold AwAt; simp
/-- An airway's cells stay where nothing old has changed. -/
theorem AwAt.lower {w w' : World} {b : Nat} {s : ByteArray} {f t l se fr sh : Int} (h : AwAt w b s f t l se fr sh) (hb : Below w.heap.size w w') (hs : b < w.heap.size) : AwAt w' b s f t l se fr sh := by
  obtain ⟨⟨c0, c1, c2, c3⟩, c4, c5, c6⟩ := h
  have hc := (bcell hb).1
  exact ⟨⟨(hc _ _ hs).trans c0, (hc _ _ hs).trans c1, (hc _ _ hs).trans c2, (hc _ _ hs).trans c3⟩, (hc _ _ hs).trans c4, (hc _ _ hs).trans c5, (hc _ _ hs).trans c6⟩
theorem awOk_below (b : Nat) (s : ByteArray) (f t l se fr sh : Int) (w : World) (hs : s.size ≤ maxLen) (hc : AwAt w b s f t l se fr sh) :
    Calls Tryd.prog 52 #[.pointer (some ⟨b, 0, none⟩)] w fun e w' => e = .returned (.bool (awOk s f t l se fr sh)) ∧ Below w.heap.size w w' :=
  (l03Ok_any b s f t l se fr sh w hs hc).mono fun _ _ ⟨h, n, e⟩ => ⟨h, e ▸ below_drewN' (Below.refl _ _) n⟩
end Go.Proofs.YtofpecgmnodflaaDoor
