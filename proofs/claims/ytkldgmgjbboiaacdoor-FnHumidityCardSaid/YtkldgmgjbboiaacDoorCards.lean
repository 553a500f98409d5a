/-
  DERIVED. GIVEN WITH THE SEED: THE CARDS: each row of YtkldgmgjbboiaacDoorRows.lean that lists a variable, with what it lists TIED to the program's text (the seventh form; the later family's looks); each row that meets fmt, with fmt's text TOLD by the authors' own Lean function (tested against real Go, not proved from fmt's source: count such statements apart). THE CARD IS WHAT COUNTS. Prove the row's statement (the work); the ties are given (YtkldgmgjbboiaacDoorTie.lean); close each card by the builder's one call (the guide's Derived/Test/ToyasCard.lean, 'card_holds'). Laid BY PROGRAM, IN A SANDBOX (cutbox-door.mjs). By AI agents, Wed Nov 11 2026. No macro, syntax, notation, axiom, sorry.
-/
import Derived.Test.YtkldgmgjbboiaacDoorRows
import GoSem.ClaimSeven
namespace Go.Proofs.YtkldgmgjbboiaacDoor
namespace Rows

/-- THE TIED CARD OF 'laws.FnExactAirwayText'. -/
def fnExactAirwayTextCard : Claim7 := { stood := { row := fnExactAirwayTextRow, standIns := [], harness := (true, "89536aded22b00a8dd59479b1f1bad2cbdf767c6775cec85591612e34021db42"), looks := true }, kinds := [], alts := [], laidByText := true, laidKinds := [.data, .data, .data], laidTests := true, laidLooks := .later }
def FnExactAirwayTextCardSaid : Prop := Claim7.holds Tryd.pinned (.plain (OpenSpec.ofChange fnExactAirwayTextSpec)) fnExactAirwayTextCard

/-- THE TIED CARD OF 'laws.FnExactReadAirway'. -/
def fnExactReadAirwayCard : Claim7 := { stood := { row := fnExactReadAirwayRow, standIns := [], harness := (true, "89536aded22b00a8dd59479b1f1bad2cbdf767c6775cec85591612e34021db42"), looks := true }, kinds := [], alts := [], laidByText := true, laidKinds := [.data, .data, .data, .data, .sentinel, .sentinel, .pinned], laidTests := true, laidLooks := .later }
def FnExactReadAirwayCardSaid : Prop := Claim7.holds Tryd.pinned (.plain (OpenSpec.ofChange fnExactReadAirwaySpec)) fnExactReadAirwayCard

/-- THE TIED CARD OF 'laws.FnBasics'. -/
def fnBasicsCard : Claim7 := { stood := { row := fnBasicsRow, standIns := [], harness := (true, "89536aded22b00a8dd59479b1f1bad2cbdf767c6775cec85591612e34021db42"), looks := true }, kinds := [], alts := [], laidByText := true, laidKinds := [.data, .data, .data, .data, .sentinel, .sentinel, .pinned], laidTests := true, laidLooks := .later }
def FnBasicsCardSaid : Prop := Claim7.holds Tryd.pinned (.plain (OpenSpec.ofChange fnBasicsSpec)) fnBasicsCard

/-- THE TIED CARD OF 'laws.FnExactReadDecimal'. -/
def fnExactReadDecimalCard : Claim7 := { stood := { row := fnExactReadDecimalRow, standIns := [], harness := (true, "89536aded22b00a8dd59479b1f1bad2cbdf767c6775cec85591612e34021db42"), looks := true }, kinds := [], alts := [], laidByText := true, laidKinds := [.data, .data, .data, .sentinel, .sentinel], laidTests := true, laidLooks := .later }
def FnExactReadDecimalCardSaid : Prop := Claim7.holds Tryd.pinned (.plain (OpenSpec.ofChange fnExactReadDecimalSpec)) fnExactReadDecimalCard

/-- THE TIED CARD OF 'laws.FnExactReadList'. -/
def fnExactReadListCard : Claim7 := { stood := { row := fnExactReadListRow, standIns := [], harness := (true, "89536aded22b00a8dd59479b1f1bad2cbdf767c6775cec85591612e34021db42"), looks := true }, kinds := [], alts := [], laidByText := true, laidKinds := [.data, .data, .data, .data, .sentinel, .sentinel, .pinned], laidTests := true, laidLooks := .later }
def FnExactReadListCardSaid : Prop := Claim7.holds Tryd.pinned (.plain (OpenSpec.ofChange fnExactReadListSpec)) fnExactReadListCard

/-- THE TIED CARD OF 'laws.FnHumidity'. -/
def fnHumidityCard : Claim7 := { stood := { row := fnHumidityRow, standIns := [], harness := (true, "89536aded22b00a8dd59479b1f1bad2cbdf767c6775cec85591612e34021db42"), looks := true }, kinds := [], alts := [], laidByText := true, laidKinds := [.data], laidTests := true, laidLooks := .later }
def FnHumidityCardSaid : Prop := Claim7.holds Tryd.pinned (.plain (OpenSpec.ofChange fnHumiditySpec)) fnHumidityCard

/-- THE SECOND FORM's CARD OF 'laws.FnExactAirwayText'. -/
def fnExactAirwayTextUptoCard : Claim7 := { stood := { row := fnExactAirwayTextUptoRow, standIns := [], harness := (true, "89536aded22b00a8dd59479b1f1bad2cbdf767c6775cec85591612e34021db42"), looks := true }, kinds := [], alts := [], laidByText := true, laidKinds := [.data, .data, .data], laidTests := true, laidLooks := .later }
def FnExactAirwayTextUptoCardSaid : Prop := Claim7.holds Tryd.pinned (.plain (OpenSpec.upto fnExactAirwayTextSpec)) fnExactAirwayTextUptoCard

/-- THE SECOND FORM's CARD OF 'laws.FnExactReadAirway'. -/
def fnExactReadAirwayUptoCard : Claim7 := { stood := { row := fnExactReadAirwayUptoRow, standIns := [], harness := (true, "89536aded22b00a8dd59479b1f1bad2cbdf767c6775cec85591612e34021db42"), looks := true }, kinds := [], alts := [], laidByText := true, laidKinds := [.data, .data, .data, .data, .sentinel, .sentinel, .pinned], laidTests := true, laidLooks := .later }
def FnExactReadAirwayUptoCardSaid : Prop := Claim7.holds Tryd.pinned (.plain (OpenSpec.upto fnExactReadAirwaySpec)) fnExactReadAirwayUptoCard

/-- THE SECOND FORM's CARD OF 'laws.FnBasics'. -/
def fnBasicsUptoCard : Claim7 := { stood := { row := fnBasicsUptoRow, standIns := [], harness := (true, "89536aded22b00a8dd59479b1f1bad2cbdf767c6775cec85591612e34021db42"), looks := true }, kinds := [], alts := [], laidByText := true, laidKinds := [.data, .data, .data, .data, .sentinel, .sentinel, .pinned], laidTests := true, laidLooks := .later }
def FnBasicsUptoCardSaid : Prop := Claim7.holds Tryd.pinned (.plain (OpenSpec.upto fnBasicsSpec)) fnBasicsUptoCard

/-- THE SECOND FORM's CARD OF 'laws.FnExactReadDecimal'. -/
def fnExactReadDecimalUptoCard : Claim7 := { stood := { row := fnExactReadDecimalUptoRow, standIns := [], harness := (true, "89536aded22b00a8dd59479b1f1bad2cbdf767c6775cec85591612e34021db42"), looks := true }, kinds := [], alts := [], laidByText := true, laidKinds := [.data, .data, .data, .sentinel, .sentinel], laidTests := true, laidLooks := .later }
def FnExactReadDecimalUptoCardSaid : Prop := Claim7.holds Tryd.pinned (.plain (OpenSpec.upto fnExactReadDecimalSpec)) fnExactReadDecimalUptoCard

/-- THE SECOND FORM's CARD OF 'laws.FnExactReadList'. -/
def fnExactReadListUptoCard : Claim7 := { stood := { row := fnExactReadListUptoRow, standIns := [], harness := (true, "89536aded22b00a8dd59479b1f1bad2cbdf767c6775cec85591612e34021db42"), looks := true }, kinds := [], alts := [], laidByText := true, laidKinds := [.data, .data, .data, .data, .sentinel, .sentinel, .pinned], laidTests := true, laidLooks := .later }
def FnExactReadListUptoCardSaid : Prop := Claim7.holds Tryd.pinned (.plain (OpenSpec.upto fnExactReadListSpec)) fnExactReadListUptoCard

/-- THE SECOND FORM's CARD OF 'laws.FnHumidity'. -/
def fnHumidityUptoCard : Claim7 := { stood := { row := fnHumidityUptoRow, standIns := [], harness := (true, "89536aded22b00a8dd59479b1f1bad2cbdf767c6775cec85591612e34021db42"), looks := true }, kinds := [], alts := [], laidByText := true, laidKinds := [.data], laidTests := true, laidLooks := .later }
def FnHumidityUptoCardSaid : Prop := Claim7.holds Tryd.pinned (.plain (OpenSpec.upto fnHumiditySpec)) fnHumidityUptoCard
end Rows
end Go.Proofs.YtkldgmgjbboiaacDoor
