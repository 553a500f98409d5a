/-
  Contracts of chapter 3: the search of a least number, and the greatest flow with a drop; the program's. Conditions: those that each theorem states.
-/
import Derived.Test.YtddfhjolimkkmaaDa
import Derived.Deep.LoopGhost
namespace Go.Proofs.Ytddfhjolimkkmaa
open Go.RowKit
set_option linter.unusedVariables false

theorem hide {p : Prop} (h : p) : Hid p := h
theorem unhide {p : Prop} (h : Hid p) : p := h
end Go.Proofs.Ytddfhjolimkkmaa
