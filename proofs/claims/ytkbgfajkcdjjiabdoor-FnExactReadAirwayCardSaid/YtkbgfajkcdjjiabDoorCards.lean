/-
  DERIVED. GIVEN WITH THE SEED: THE CARDS: each row of YtkbgfajkcdjjiabDoorRows.lean that lists a variable, with what it lists TIED to the program's text (the seventh form; the later family's looks); each row that meets fmt, with fmt's text TOLD by the authors' own Lean function (tested against real Go, not proved from fmt's source: count such statements apart). THE CARD IS WHAT COUNTS. Prove the row's statement (the work); the ties are given (YtkbgfajkcdjjiabDoorTie.lean); close each card by the builder's one call (the guide's Derived/Test/ToyasCard.lean, 'card_holds'). Laid BY PROGRAM, IN A SANDBOX (cutbox-door.mjs). By AI agents, Wed Nov 11 2026. No macro, syntax, notation, axiom, sorry.
-/
import Derived.Test.YtkbgfajkcdjjiabDoorRows
import GoSem.ClaimSeven
namespace Go.Proofs.YtkbgfajkcdjjiabDoor
namespace Rows

/-- THE TIED CARD OF 'laws.FnExactReadMine'. -/
def fnExactReadMineCard : Claim7 := { stood := { row := fnExactReadMineRow, standIns := [], harness := (true, "639f756f6cd5746d8c74ef1023820b94bbee8d9327d88c3321fd1a53dff75579"), looks := true }, kinds := [], alts := [], laidByText := true, laidKinds := [.data, .data, .data, .data, .sentinel, .sentinel, .pinned], laidTests := true, laidLooks := .later }
def FnExactReadMineCardSaid : Prop := Claim7.holds Tryd.pinned (.plain (OpenSpec.ofChange fnExactReadMineSpec)) fnExactReadMineCard

/-- THE TIED CARD OF 'laws.FnBasics'. -/
def fnBasicsCard : Claim7 := { stood := { row := fnBasicsRow, standIns := [], harness := (true, "639f756f6cd5746d8c74ef1023820b94bbee8d9327d88c3321fd1a53dff75579"), looks := true }, kinds := [], alts := [], laidByText := true, laidKinds := [.data, .data, .data, .data, .sentinel, .sentinel, .pinned], laidTests := true, laidLooks := .later }
def FnBasicsCardSaid : Prop := Claim7.holds Tryd.pinned (.plain (OpenSpec.ofChange fnBasicsSpec)) fnBasicsCard

/-- THE TIED CARD OF 'laws.FnExactReadDecimal'. -/
def fnExactReadDecimalCard : Claim7 := { stood := { row := fnExactReadDecimalRow, standIns := [], harness := (true, "639f756f6cd5746d8c74ef1023820b94bbee8d9327d88c3321fd1a53dff75579"), looks := true }, kinds := [], alts := [], laidByText := true, laidKinds := [.data, .data, .data, .sentinel, .sentinel], laidTests := true, laidLooks := .later }
def FnExactReadDecimalCardSaid : Prop := Claim7.holds Tryd.pinned (.plain (OpenSpec.ofChange fnExactReadDecimalSpec)) fnExactReadDecimalCard

/-- THE TIED CARD OF 'laws.FnExactReadList'. -/
def fnExactReadListCard : Claim7 := { stood := { row := fnExactReadListRow, standIns := [], harness := (true, "639f756f6cd5746d8c74ef1023820b94bbee8d9327d88c3321fd1a53dff75579"), looks := true }, kinds := [], alts := [], laidByText := true, laidKinds := [.data, .data, .data, .data, .sentinel, .sentinel, .pinned], laidTests := true, laidLooks := .later }
def FnExactReadListCardSaid : Prop := Claim7.holds Tryd.pinned (.plain (OpenSpec.ofChange fnExactReadListSpec)) fnExactReadListCard

/-- THE TIED CARD OF 'laws.FnExactReadAir'. -/
def fnExactReadAirCard : Claim7 := { stood := { row := fnExactReadAirRow, standIns := [], harness := (true, "639f756f6cd5746d8c74ef1023820b94bbee8d9327d88c3321fd1a53dff75579"), looks := true }, kinds := [], alts := [], laidByText := true, laidKinds := [.data, .data, .data, .data, .sentinel, .sentinel, .pinned], laidTests := true, laidLooks := .later }
def FnExactReadAirCardSaid : Prop := Claim7.holds Tryd.pinned (.plain (OpenSpec.ofChange fnExactReadAirSpec)) fnExactReadAirCard

/-- THE TIED CARD OF 'laws.FnExactReadAirway'. -/
def fnExactReadAirwayCard : Claim7 := { stood := { row := fnExactReadAirwayRow, standIns := [], harness := (true, "639f756f6cd5746d8c74ef1023820b94bbee8d9327d88c3321fd1a53dff75579"), looks := true }, kinds := [], alts := [], laidByText := true, laidKinds := [.data, .data, .data, .data, .sentinel, .sentinel, .pinned], laidTests := true, laidLooks := .later }
def FnExactReadAirwayCardSaid : Prop := Claim7.holds Tryd.pinned (.plain (OpenSpec.ofChange fnExactReadAirwaySpec)) fnExactReadAirwayCard

/-- THE SECOND FORM's CARD OF 'laws.FnExactReadMine'. -/
def fnExactReadMineUptoCard : Claim7 := { stood := { row := fnExactReadMineUptoRow, standIns := [], harness := (true, "639f756f6cd5746d8c74ef1023820b94bbee8d9327d88c3321fd1a53dff75579"), looks := true }, kinds := [], alts := [], laidByText := true, laidKinds := [.data, .data, .data, .data, .sentinel, .sentinel, .pinned], laidTests := true, laidLooks := .later }
def FnExactReadMineUptoCardSaid : Prop := Claim7.holds Tryd.pinned (.plain (OpenSpec.upto fnExactReadMineSpec)) fnExactReadMineUptoCard

/-- THE SECOND FORM's CARD OF 'laws.FnBasics'. -/
def fnBasicsUptoCard : Claim7 := { stood := { row := fnBasicsUptoRow, standIns := [], harness := (true, "639f756f6cd5746d8c74ef1023820b94bbee8d9327d88c3321fd1a53dff75579"), looks := true }, kinds := [], alts := [], laidByText := true, laidKinds := [.data, .data, .data, .data, .sentinel, .sentinel, .pinned], laidTests := true, laidLooks := .later }
def FnBasicsUptoCardSaid : Prop := Claim7.holds Tryd.pinned (.plain (OpenSpec.upto fnBasicsSpec)) fnBasicsUptoCard

/-- THE SECOND FORM's CARD OF 'laws.FnExactReadDecimal'. -/
def fnExactReadDecimalUptoCard : Claim7 := { stood := { row := fnExactReadDecimalUptoRow, standIns := [], harness := (true, "639f756f6cd5746d8c74ef1023820b94bbee8d9327d88c3321fd1a53dff75579"), looks := true }, kinds := [], alts := [], laidByText := true, laidKinds := [.data, .data, .data, .sentinel, .sentinel], laidTests := true, laidLooks := .later }
def FnExactReadDecimalUptoCardSaid : Prop := Claim7.holds Tryd.pinned (.plain (OpenSpec.upto fnExactReadDecimalSpec)) fnExactReadDecimalUptoCard

/-- THE SECOND FORM's CARD OF 'laws.FnExactReadList'. -/
def fnExactReadListUptoCard : Claim7 := { stood := { row := fnExactReadListUptoRow, standIns := [], harness := (true, "639f756f6cd5746d8c74ef1023820b94bbee8d9327d88c3321fd1a53dff75579"), looks := true }, kinds := [], alts := [], laidByText := true, laidKinds := [.data, .data, .data, .data, .sentinel, .sentinel, .pinned], laidTests := true, laidLooks := .later }
def FnExactReadListUptoCardSaid : Prop := Claim7.holds Tryd.pinned (.plain (OpenSpec.upto fnExactReadListSpec)) fnExactReadListUptoCard

/-- THE SECOND FORM's CARD OF 'laws.FnExactReadAir'. -/
def fnExactReadAirUptoCard : Claim7 := { stood := { row := fnExactReadAirUptoRow, standIns := [], harness := (true, "639f756f6cd5746d8c74ef1023820b94bbee8d9327d88c3321fd1a53dff75579"), looks := true }, kinds := [], alts := [], laidByText := true, laidKinds := [.data, .data, .data, .data, .sentinel, .sentinel, .pinned], laidTests := true, laidLooks := .later }
def FnExactReadAirUptoCardSaid : Prop := Claim7.holds Tryd.pinned (.plain (OpenSpec.upto fnExactReadAirSpec)) fnExactReadAirUptoCard

/-- THE SECOND FORM's CARD OF 'laws.FnExactReadAirway'. -/
def fnExactReadAirwayUptoCard : Claim7 := { stood := { row := fnExactReadAirwayUptoRow, standIns := [], harness := (true, "639f756f6cd5746d8c74ef1023820b94bbee8d9327d88c3321fd1a53dff75579"), looks := true }, kinds := [], alts := [], laidByText := true, laidKinds := [.data, .data, .data, .data, .sentinel, .sentinel, .pinned], laidTests := true, laidLooks := .later }
def FnExactReadAirwayUptoCardSaid : Prop := Claim7.holds Tryd.pinned (.plain (OpenSpec.upto fnExactReadAirwaySpec)) fnExactReadAirwayUptoCard
end Rows
end Go.Proofs.YtkbgfajkcdjjiabDoor
