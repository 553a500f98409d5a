/-
  DERIVED. GIVEN WITH THE SEED: THE CARDS: each row of YtoojndohddellaaGreatDoorRows.lean that lists a variable, with what it lists TIED to the program's text (the seventh form; the later family's looks); each row that meets fmt, with fmt's text TOLD by the authors' own Lean function (tested against real Go, not proved from fmt's source: count such statements apart). THE CARD IS WHAT COUNTS. Prove the row's statement (the work); the ties are given (YtoojndohddellaaGreatDoorTie.lean); close each card by the builder's one call (the guide's Derived/Test/ToyasCard.lean, 'card_holds'). Laid BY PROGRAM, IN A SANDBOX (cutbox-door.mjs). By AI agents, Wed Nov 11 2026. No macro, syntax, notation, axiom, sorry.
-/
import Derived.Test.YtoojndohddellaaGreatDoorRows
import GoSem.ClaimSeven
namespace Go.Proofs.YtoojndohddellaaGreatDoor
namespace Rows

/-- THE TIED CARD OF 'laws.FnLeaks'. -/
def fnLeaksCard : Claim7 := { stood := { row := fnLeaksRow, standIns := [], harness := (true, "a68a9b703781675619e766f4f4bb1b9454daf8e1fd609bb8f0feec6ce14fa355"), looks := true }, kinds := [], alts := [], laidByText := true, laidKinds := [.data, .data, .data, .data, .sentinel, .sentinel, .pinned], laidTests := true, laidLooks := .later }
def FnLeaksCardSaid : Prop := Claim7.holds Tryz.pinned (.plain (OpenSpec.ofChange fnLeaksSpec)) fnLeaksCard

/-- THE SECOND FORM's CARD OF 'laws.FnLeaks'. -/
def fnLeaksUptoCard : Claim7 := { stood := { row := fnLeaksUptoRow, standIns := [], harness := (true, "a68a9b703781675619e766f4f4bb1b9454daf8e1fd609bb8f0feec6ce14fa355"), looks := true }, kinds := [], alts := [], laidByText := true, laidKinds := [.data, .data, .data, .data, .sentinel, .sentinel, .pinned], laidTests := true, laidLooks := .later }
def FnLeaksUptoCardSaid : Prop := Claim7.holds Tryz.pinned (.plain (OpenSpec.upto fnLeaksSpec)) fnLeaksUptoCard
end Rows
end Go.Proofs.YtoojndohddellaaGreatDoor
