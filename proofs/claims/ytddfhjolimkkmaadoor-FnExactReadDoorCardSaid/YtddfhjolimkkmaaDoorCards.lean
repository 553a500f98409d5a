/-
  DERIVED. GIVEN WITH THE SEED: THE CARDS: each row of YtddfhjolimkkmaaDoorRows.lean that lists a variable, with what it lists TIED to the program's text (the seventh form; the later family's looks); each row that meets fmt, with fmt's text TOLD by the authors' own Lean function (tested against real Go, not proved from fmt's source: count such statements apart). THE CARD IS WHAT COUNTS. Prove the row's statement (the work); the ties are given (YtddfhjolimkkmaaDoorTie.lean); close each card by the builder's one call (the guide's Derived/Test/ToyasCard.lean, 'card_holds'). Laid BY PROGRAM, IN A SANDBOX (cutbox-door.mjs). By AI agents, Wed Nov 11 2026. No macro, syntax, notation, axiom, sorry.
-/
import Derived.Test.YtddfhjolimkkmaaDoorRows
import GoSem.ClaimSeven
namespace Go.Proofs.YtddfhjolimkkmaaDoor
namespace Rows

/-- THE TIED CARD OF 'laws.FnExactDoorText'. -/
def fnExactDoorTextCard : Claim7 := { stood := { row := fnExactDoorTextRow, standIns := [], harness := (true, "09e91c99b98358594ee46dbeaf17d54ab8387ce8fa5d4026f214ffb8da36df71"), looks := true }, kinds := [], alts := [], laidByText := true, laidKinds := [.data, .data, .data], laidTests := true, laidLooks := .later }
def FnExactDoorTextCardSaid : Prop := Claim7.holds Tryd.pinned (.plain (OpenSpec.ofChange fnExactDoorTextSpec)) fnExactDoorTextCard

/-- THE TIED CARD OF 'laws.FnExactReadDoor'. -/
def fnExactReadDoorCard : Claim7 := { stood := { row := fnExactReadDoorRow, standIns := [], harness := (true, "09e91c99b98358594ee46dbeaf17d54ab8387ce8fa5d4026f214ffb8da36df71"), looks := true }, kinds := [], alts := [], laidByText := true, laidKinds := [.data, .data, .data, .data, .sentinel, .sentinel, .pinned], laidTests := true, laidLooks := .later }
def FnExactReadDoorCardSaid : Prop := Claim7.holds Tryd.pinned (.plain (OpenSpec.ofChange fnExactReadDoorSpec)) fnExactReadDoorCard

/-- THE SECOND FORM's CARD OF 'laws.FnExactDoorText'. -/
def fnExactDoorTextUptoCard : Claim7 := { stood := { row := fnExactDoorTextUptoRow, standIns := [], harness := (true, "09e91c99b98358594ee46dbeaf17d54ab8387ce8fa5d4026f214ffb8da36df71"), looks := true }, kinds := [], alts := [], laidByText := true, laidKinds := [.data, .data, .data], laidTests := true, laidLooks := .later }
def FnExactDoorTextUptoCardSaid : Prop := Claim7.holds Tryd.pinned (.plain (OpenSpec.upto fnExactDoorTextSpec)) fnExactDoorTextUptoCard

/-- THE SECOND FORM's CARD OF 'laws.FnExactReadDoor'. -/
def fnExactReadDoorUptoCard : Claim7 := { stood := { row := fnExactReadDoorUptoRow, standIns := [], harness := (true, "09e91c99b98358594ee46dbeaf17d54ab8387ce8fa5d4026f214ffb8da36df71"), looks := true }, kinds := [], alts := [], laidByText := true, laidKinds := [.data, .data, .data, .data, .sentinel, .sentinel, .pinned], laidTests := true, laidLooks := .later }
def FnExactReadDoorUptoCardSaid : Prop := Claim7.holds Tryd.pinned (.plain (OpenSpec.upto fnExactReadDoorSpec)) fnExactReadDoorUptoCard
end Rows
end Go.Proofs.YtddfhjolimkkmaaDoor
