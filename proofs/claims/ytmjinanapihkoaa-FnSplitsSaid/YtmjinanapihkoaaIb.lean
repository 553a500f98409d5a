/-
  Contracts of the model's draws of chapter 2: what is drawn lies in its range. Conditions: those that each theorem states.
-/
import Derived.Test.YtmjinanapihkoaaIa
namespace Go.Proofs.Ytmjinanapihkoaa
open Go.RowKit
set_option linter.unusedVariables false

theorem SrcB.alloc {w : World} {b : Nat} {a : Option Addr} {len cap : Nat} {at' seed : Int} (h : SrcB w b a len cap at' seed) (x : Obj) : SrcB (w.alloc x) b a len cap at' seed := by
  have hl := h.cells.2.2
  unfold SrcB at h ⊢
  rw [← h]
  show (w.heap.push x)[b]? = _
  rw [Array.getElem?_push_lt hl, Array.getElem?_eq_getElem hl]
theorem Oth.alloc (b : Nat) (w : World) (x : Obj) : Oth b w (w.alloc x) := fun k hk _ => Below.heap_alloc w x k hk
end Go.Proofs.Ytmjinanapihkoaa
