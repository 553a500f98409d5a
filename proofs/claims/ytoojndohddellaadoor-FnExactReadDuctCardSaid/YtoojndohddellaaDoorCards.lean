/-
  DERIVED. GIVEN WITH THE SEED: THE CARDS: each row of YtoojndohddellaaDoorRows.lean that lists a variable, with what it lists TIED to the program's text (the seventh form; the later family's looks); each row that meets fmt, with fmt's text TOLD by the authors' own Lean function (tested against real Go, not proved from fmt's source: count such statements apart). THE CARD IS WHAT COUNTS. Prove the row's statement (the work); the ties are given (YtoojndohddellaaDoorTie.lean); close each card by the builder's one call (the guide's Derived/Test/ToyasCard.lean, 'card_holds'). Laid BY PROGRAM, IN A SANDBOX (cutbox-door.mjs). By AI agents, Wed Nov 11 2026. No macro, syntax, notation, axiom, sorry.
-/
import Derived.Test.YtoojndohddellaaDoorRows
import GoSem.ClaimSeven
namespace Go.Proofs.YtoojndohddellaaDoor
namespace Rows

/-- THE TIED CARD OF 'laws.FnExactDuctText'. -/
def fnExactDuctTextCard : Claim7 := { stood := { row := fnExactDuctTextRow, standIns := [], harness := (true, "394583516c097a556044465030b72e037bd2451bd6d423cc12992f5d68f5c836"), looks := true }, kinds := [], alts := [], laidByText := true, laidKinds := [.data, .data, .data], laidTests := true, laidLooks := .later }
def FnExactDuctTextCardSaid : Prop := Claim7.holds Tryd.pinned (.plain (OpenSpec.ofChange fnExactDuctTextSpec)) fnExactDuctTextCard

/-- THE TIED CARD OF 'laws.FnExactReadDuct'. -/
def fnExactReadDuctCard : Claim7 := { stood := { row := fnExactReadDuctRow, standIns := [], harness := (true, "394583516c097a556044465030b72e037bd2451bd6d423cc12992f5d68f5c836"), looks := true }, kinds := [], alts := [], laidByText := true, laidKinds := [.data, .data, .data, .data, .sentinel, .sentinel, .pinned], laidTests := true, laidLooks := .later }
def FnExactReadDuctCardSaid : Prop := Claim7.holds Tryd.pinned (.plain (OpenSpec.ofChange fnExactReadDuctSpec)) fnExactReadDuctCard

/-- THE SECOND FORM's CARD OF 'laws.FnExactDuctText'. -/
def fnExactDuctTextUptoCard : Claim7 := { stood := { row := fnExactDuctTextUptoRow, standIns := [], harness := (true, "394583516c097a556044465030b72e037bd2451bd6d423cc12992f5d68f5c836"), looks := true }, kinds := [], alts := [], laidByText := true, laidKinds := [.data, .data, .data], laidTests := true, laidLooks := .later }
def FnExactDuctTextUptoCardSaid : Prop := Claim7.holds Tryd.pinned (.plain (OpenSpec.upto fnExactDuctTextSpec)) fnExactDuctTextUptoCard

/-- THE SECOND FORM's CARD OF 'laws.FnExactReadDuct'. -/
def fnExactReadDuctUptoCard : Claim7 := { stood := { row := fnExactReadDuctUptoRow, standIns := [], harness := (true, "394583516c097a556044465030b72e037bd2451bd6d423cc12992f5d68f5c836"), looks := true }, kinds := [], alts := [], laidByText := true, laidKinds := [.data, .data, .data, .data, .sentinel, .sentinel, .pinned], laidTests := true, laidLooks := .later }
def FnExactReadDuctUptoCardSaid : Prop := Claim7.holds Tryd.pinned (.plain (OpenSpec.upto fnExactReadDuctSpec)) fnExactReadDuctUptoCard
end Rows
end Go.Proofs.YtoojndohddellaaDoor
