/-
  DERIVED. GIVEN WITH THE SEED: THE CARDS: each row of YtkldgmgjbboiaaaDoorRows.lean that lists a variable, with what it lists TIED to the program's text (the seventh form; the later family's looks); each row that meets fmt, with fmt's text TOLD by the authors' own Lean function (tested against real Go, not proved from fmt's source: count such statements apart). THE CARD IS WHAT COUNTS. Prove the row's statement (the work); the ties are given (YtkldgmgjbboiaaaDoorTie.lean); close each card by the builder's one call (the guide's Derived/Test/ToyasCard.lean, 'card_holds'). Laid BY PROGRAM, IN A SANDBOX (cutbox-door.mjs). By AI agents, Wed Nov 11 2026. No macro, syntax, notation, axiom, sorry.
-/
import Derived.Test.YtkldgmgjbboiaaaDoorRows
import GoSem.ClaimSeven
namespace Go.Proofs.YtkldgmgjbboiaaaDoor
namespace Rows

/-- THE TIED CARD OF 'laws.FnExactSaturationOf'. -/
def fnExactSaturationOfCard : Claim7 := { stood := { row := fnExactSaturationOfRow, standIns := [], harness := (true, "020158f6defc3b4472dbd26652804261f97749c15a83a331931528cd101a4001"), looks := false }, kinds := [], alts := [], laidByText := true, laidKinds := [.data], laidTests := true, laidLooks := .later }
def FnExactSaturationOfCardSaid : Prop := Claim7.holds Tryd.pinned (.plain (OpenSpec.ofChange fnExactSaturationOfSpec)) fnExactSaturationOfCard

/-- THE TIED CARD OF 'laws.FnExactVapourOf'. -/
def fnExactVapourOfCard : Claim7 := { stood := { row := fnExactVapourOfRow, standIns := [], harness := (true, "020158f6defc3b4472dbd26652804261f97749c15a83a331931528cd101a4001"), looks := false }, kinds := [], alts := [], laidByText := true, laidKinds := [.data], laidTests := true, laidLooks := .later }
def FnExactVapourOfCardSaid : Prop := Claim7.holds Tryd.pinned (.plain (OpenSpec.ofChange fnExactVapourOfSpec)) fnExactVapourOfCard

/-- THE TIED CARD OF 'laws.FnExactHumidityFor'. -/
def fnExactHumidityForCard : Claim7 := { stood := { row := fnExactHumidityForRow, standIns := [], harness := (true, "020158f6defc3b4472dbd26652804261f97749c15a83a331931528cd101a4001"), looks := false }, kinds := [], alts := [], laidByText := true, laidKinds := [.data], laidTests := true, laidLooks := .later }
def FnExactHumidityForCardSaid : Prop := Claim7.holds Tryd.pinned (.plain (OpenSpec.ofChange fnExactHumidityForSpec)) fnExactHumidityForCard

/-- THE TIED CARD OF 'laws.FnExactDewPoint'. -/
def fnExactDewPointCard : Claim7 := { stood := { row := fnExactDewPointRow, standIns := [], harness := (true, "020158f6defc3b4472dbd26652804261f97749c15a83a331931528cd101a4001"), looks := false }, kinds := [], alts := [], laidByText := true, laidKinds := [.data], laidTests := true, laidLooks := .later }
def FnExactDewPointCardSaid : Prop := Claim7.holds Tryd.pinned (.plain (OpenSpec.ofChange fnExactDewPointSpec)) fnExactDewPointCard

/-- THE TIED CARD OF 'laws.FnExactMoistDensity'. -/
def fnExactMoistDensityCard : Claim7 := { stood := { row := fnExactMoistDensityRow, standIns := [], harness := (true, "020158f6defc3b4472dbd26652804261f97749c15a83a331931528cd101a4001"), looks := false }, kinds := [], alts := [], laidByText := true, laidKinds := [.data], laidTests := true, laidLooks := .later }
def FnExactMoistDensityCardSaid : Prop := Claim7.holds Tryd.pinned (.plain (OpenSpec.ofChange fnExactMoistDensitySpec)) fnExactMoistDensityCard

/-- THE TIED CARD OF 'laws.FnExactAirText'. -/
def fnExactAirTextCard : Claim7 := { stood := { row := fnExactAirTextRow, standIns := [], harness := (true, "020158f6defc3b4472dbd26652804261f97749c15a83a331931528cd101a4001"), looks := false }, kinds := [], alts := [], laidByText := true, laidKinds := [.data, .data, .data], laidTests := true, laidLooks := .later }
def FnExactAirTextCardSaid : Prop := Claim7.holds Tryd.pinned (.plain (OpenSpec.ofChange fnExactAirTextSpec)) fnExactAirTextCard

/-- THE SECOND FORM's CARD OF 'laws.FnExactSaturationOf'. -/
def fnExactSaturationOfUptoCard : Claim7 := { stood := { row := fnExactSaturationOfUptoRow, standIns := [], harness := (true, "020158f6defc3b4472dbd26652804261f97749c15a83a331931528cd101a4001"), looks := false }, kinds := [], alts := [], laidByText := true, laidKinds := [.data], laidTests := true, laidLooks := .later }
def FnExactSaturationOfUptoCardSaid : Prop := Claim7.holds Tryd.pinned (.plain (OpenSpec.upto fnExactSaturationOfSpec)) fnExactSaturationOfUptoCard

/-- THE SECOND FORM's CARD OF 'laws.FnExactVapourOf'. -/
def fnExactVapourOfUptoCard : Claim7 := { stood := { row := fnExactVapourOfUptoRow, standIns := [], harness := (true, "020158f6defc3b4472dbd26652804261f97749c15a83a331931528cd101a4001"), looks := false }, kinds := [], alts := [], laidByText := true, laidKinds := [.data], laidTests := true, laidLooks := .later }
def FnExactVapourOfUptoCardSaid : Prop := Claim7.holds Tryd.pinned (.plain (OpenSpec.upto fnExactVapourOfSpec)) fnExactVapourOfUptoCard

/-- THE SECOND FORM's CARD OF 'laws.FnExactHumidityFor'. -/
def fnExactHumidityForUptoCard : Claim7 := { stood := { row := fnExactHumidityForUptoRow, standIns := [], harness := (true, "020158f6defc3b4472dbd26652804261f97749c15a83a331931528cd101a4001"), looks := false }, kinds := [], alts := [], laidByText := true, laidKinds := [.data], laidTests := true, laidLooks := .later }
def FnExactHumidityForUptoCardSaid : Prop := Claim7.holds Tryd.pinned (.plain (OpenSpec.upto fnExactHumidityForSpec)) fnExactHumidityForUptoCard

/-- THE SECOND FORM's CARD OF 'laws.FnExactDewPoint'. -/
def fnExactDewPointUptoCard : Claim7 := { stood := { row := fnExactDewPointUptoRow, standIns := [], harness := (true, "020158f6defc3b4472dbd26652804261f97749c15a83a331931528cd101a4001"), looks := false }, kinds := [], alts := [], laidByText := true, laidKinds := [.data], laidTests := true, laidLooks := .later }
def FnExactDewPointUptoCardSaid : Prop := Claim7.holds Tryd.pinned (.plain (OpenSpec.upto fnExactDewPointSpec)) fnExactDewPointUptoCard

/-- THE SECOND FORM's CARD OF 'laws.FnExactMoistDensity'. -/
def fnExactMoistDensityUptoCard : Claim7 := { stood := { row := fnExactMoistDensityUptoRow, standIns := [], harness := (true, "020158f6defc3b4472dbd26652804261f97749c15a83a331931528cd101a4001"), looks := false }, kinds := [], alts := [], laidByText := true, laidKinds := [.data], laidTests := true, laidLooks := .later }
def FnExactMoistDensityUptoCardSaid : Prop := Claim7.holds Tryd.pinned (.plain (OpenSpec.upto fnExactMoistDensitySpec)) fnExactMoistDensityUptoCard

/-- THE SECOND FORM's CARD OF 'laws.FnExactAirText'. -/
def fnExactAirTextUptoCard : Claim7 := { stood := { row := fnExactAirTextUptoRow, standIns := [], harness := (true, "020158f6defc3b4472dbd26652804261f97749c15a83a331931528cd101a4001"), looks := false }, kinds := [], alts := [], laidByText := true, laidKinds := [.data, .data, .data], laidTests := true, laidLooks := .later }
def FnExactAirTextUptoCardSaid : Prop := Claim7.holds Tryd.pinned (.plain (OpenSpec.upto fnExactAirTextSpec)) fnExactAirTextUptoCard
end Rows
end Go.Proofs.YtkldgmgjbboiaaaDoor
