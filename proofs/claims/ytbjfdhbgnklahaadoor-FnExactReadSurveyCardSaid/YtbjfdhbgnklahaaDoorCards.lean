/-
  DERIVED. GIVEN WITH THE SEED: THE CARDS: each row of YtbjfdhbgnklahaaDoorRows.lean that lists a variable, with what it lists TIED to the program's text (the seventh form; the later family's looks); each row that meets fmt, with fmt's text TOLD by the authors' own Lean function (tested against real Go, not proved from fmt's source: count such statements apart). THE CARD IS WHAT COUNTS. Prove the row's statement (the work); the ties are given (YtbjfdhbgnklahaaDoorTie.lean); close each card by the builder's one call (the guide's Derived/Test/ToyasCard.lean, 'card_holds'). Laid BY PROGRAM, IN A SANDBOX (cutbox-door.mjs). By AI agents, Wed Nov 11 2026. No macro, syntax, notation, axiom, sorry.
-/
import Derived.Test.YtbjfdhbgnklahaaDoorRows
import GoSem.ClaimSeven
namespace Go.Proofs.YtbjfdhbgnklahaaDoor
namespace Rows

/-- THE TIED CARD OF 'laws.FnExactSurveyText'. -/
def fnExactSurveyTextCard : Claim7 := { stood := { row := fnExactSurveyTextRow, standIns := [], harness := (true, "6d140a05c4360a629522b8995658a534d157c4159348adfcd076b8a99ae1709e"), looks := true }, kinds := [], alts := [], laidByText := true, laidKinds := [.data, .data, .data], laidTests := true, laidLooks := .later }
def FnExactSurveyTextCardSaid : Prop := Claim7.holds Tryd.pinned (.plain (OpenSpec.ofChange fnExactSurveyTextSpec)) fnExactSurveyTextCard

/-- THE TIED CARD OF 'laws.FnExactReadSurvey'. -/
def fnExactReadSurveyCard : Claim7 := { stood := { row := fnExactReadSurveyRow, standIns := [], harness := (true, "6d140a05c4360a629522b8995658a534d157c4159348adfcd076b8a99ae1709e"), looks := true }, kinds := [], alts := [], laidByText := true, laidKinds := [.data, .data, .data, .data, .sentinel, .sentinel, .pinned], laidTests := true, laidLooks := .later }
def FnExactReadSurveyCardSaid : Prop := Claim7.holds Tryd.pinned (.plain (OpenSpec.ofChange fnExactReadSurveySpec)) fnExactReadSurveyCard

/-- THE SECOND FORM's CARD OF 'laws.FnExactSurveyText'. -/
def fnExactSurveyTextUptoCard : Claim7 := { stood := { row := fnExactSurveyTextUptoRow, standIns := [], harness := (true, "6d140a05c4360a629522b8995658a534d157c4159348adfcd076b8a99ae1709e"), looks := true }, kinds := [], alts := [], laidByText := true, laidKinds := [.data, .data, .data], laidTests := true, laidLooks := .later }
def FnExactSurveyTextUptoCardSaid : Prop := Claim7.holds Tryd.pinned (.plain (OpenSpec.upto fnExactSurveyTextSpec)) fnExactSurveyTextUptoCard

/-- THE SECOND FORM's CARD OF 'laws.FnExactReadSurvey'. -/
def fnExactReadSurveyUptoCard : Claim7 := { stood := { row := fnExactReadSurveyUptoRow, standIns := [], harness := (true, "6d140a05c4360a629522b8995658a534d157c4159348adfcd076b8a99ae1709e"), looks := true }, kinds := [], alts := [], laidByText := true, laidKinds := [.data, .data, .data, .data, .sentinel, .sentinel, .pinned], laidTests := true, laidLooks := .later }
def FnExactReadSurveyUptoCardSaid : Prop := Claim7.holds Tryd.pinned (.plain (OpenSpec.upto fnExactReadSurveySpec)) fnExactReadSurveyUptoCard
end Rows
end Go.Proofs.YtbjfdhbgnklahaaDoor
