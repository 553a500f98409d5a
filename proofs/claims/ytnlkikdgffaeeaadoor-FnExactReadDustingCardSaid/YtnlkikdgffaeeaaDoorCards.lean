/-
  DERIVED. GIVEN WITH THE SEED: THE CARDS: each row of YtnlkikdgffaeeaaDoorRows.lean that lists a variable, with what it lists TIED to the program's text (the seventh form; the later family's looks); each row that meets fmt, with fmt's text TOLD by the authors' own Lean function (tested against real Go, not proved from fmt's source: count such statements apart). THE CARD IS WHAT COUNTS. Prove the row's statement (the work); the ties are given (YtnlkikdgffaeeaaDoorTie.lean); close each card by the builder's one call (the guide's Derived/Test/ToyasCard.lean, 'card_holds'). Laid BY PROGRAM, IN A SANDBOX (cutbox-door.mjs). By AI agents, Wed Nov 11 2026. No macro, syntax, notation, axiom, sorry.
-/
import Derived.Test.YtnlkikdgffaeeaaDoorRows
import GoSem.ClaimSeven
namespace Go.Proofs.YtnlkikdgffaeeaaDoor
namespace Rows

/-- THE TIED CARD OF 'laws.FnExactDustingText'. -/
def fnExactDustingTextCard : Claim7 := { stood := { row := fnExactDustingTextRow, standIns := [], harness := (true, "ab2c43dc3809b96c27bda94db41e2d2c7bb0455e655d87ce36701cdd6718bd2e"), looks := true }, kinds := [], alts := [], laidByText := true, laidKinds := [.data, .data, .data], laidTests := true, laidLooks := .later }
def FnExactDustingTextCardSaid : Prop := Claim7.holds Tryd.pinned (.plain (OpenSpec.ofChange fnExactDustingTextSpec)) fnExactDustingTextCard

/-- THE TIED CARD OF 'laws.FnExactReadDusting'. -/
def fnExactReadDustingCard : Claim7 := { stood := { row := fnExactReadDustingRow, standIns := [], harness := (true, "ab2c43dc3809b96c27bda94db41e2d2c7bb0455e655d87ce36701cdd6718bd2e"), looks := true }, kinds := [], alts := [], laidByText := true, laidKinds := [.data, .data, .data, .data, .sentinel, .sentinel, .pinned], laidTests := true, laidLooks := .later }
def FnExactReadDustingCardSaid : Prop := Claim7.holds Tryd.pinned (.plain (OpenSpec.ofChange fnExactReadDustingSpec)) fnExactReadDustingCard

/-- THE SECOND FORM's CARD OF 'laws.FnExactDustingText'. -/
def fnExactDustingTextUptoCard : Claim7 := { stood := { row := fnExactDustingTextUptoRow, standIns := [], harness := (true, "ab2c43dc3809b96c27bda94db41e2d2c7bb0455e655d87ce36701cdd6718bd2e"), looks := true }, kinds := [], alts := [], laidByText := true, laidKinds := [.data, .data, .data], laidTests := true, laidLooks := .later }
def FnExactDustingTextUptoCardSaid : Prop := Claim7.holds Tryd.pinned (.plain (OpenSpec.upto fnExactDustingTextSpec)) fnExactDustingTextUptoCard

/-- THE SECOND FORM's CARD OF 'laws.FnExactReadDusting'. -/
def fnExactReadDustingUptoCard : Claim7 := { stood := { row := fnExactReadDustingUptoRow, standIns := [], harness := (true, "ab2c43dc3809b96c27bda94db41e2d2c7bb0455e655d87ce36701cdd6718bd2e"), looks := true }, kinds := [], alts := [], laidByText := true, laidKinds := [.data, .data, .data, .data, .sentinel, .sentinel, .pinned], laidTests := true, laidLooks := .later }
def FnExactReadDustingUptoCardSaid : Prop := Claim7.holds Tryd.pinned (.plain (OpenSpec.upto fnExactReadDustingSpec)) fnExactReadDustingUptoCard
end Rows
end Go.Proofs.YtnlkikdgffaeeaaDoor
