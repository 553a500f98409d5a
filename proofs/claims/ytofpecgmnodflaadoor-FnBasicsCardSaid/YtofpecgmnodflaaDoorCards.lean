/-
  DERIVED. GIVEN WITH THE SEED: THE CARDS: each row of YtofpecgmnodflaaDoorRows.lean that lists a variable, with what it lists TIED to the program's text (the seventh form; the later family's looks); each row that meets fmt, with fmt's text TOLD by the authors' own Lean function (tested against real Go, not proved from fmt's source: count such statements apart). THE CARD IS WHAT COUNTS. Prove the row's statement (the work); the ties are given (YtofpecgmnodflaaDoorTie.lean); close each card by the builder's one call (the guide's Derived/Test/ToyasCard.lean, 'card_holds'). Laid BY PROGRAM, IN A SANDBOX (cutbox-door.mjs). By AI agents, Wed Nov 11 2026. No macro, syntax, notation, axiom, sorry.
-/
import Derived.Test.YtofpecgmnodflaaDoorRows
import GoSem.ClaimSeven
namespace Go.Proofs.YtofpecgmnodflaaDoor
namespace Rows

/-- THE TIED CARD OF 'laws.FnExactMineText'. -/
def fnExactMineTextCard : Claim7 := { stood := { row := fnExactMineTextRow, standIns := [], harness := (true, "888c733235df3732ac9ee9f86a2bc48a86b9c95f3698516c983a8d779f6f4e7b"), looks := true }, kinds := [], alts := [], laidByText := true, laidKinds := [.data, .data, .data], laidTests := true, laidLooks := .later }
def FnExactMineTextCardSaid : Prop := Claim7.holds Tryd.pinned (.plain (OpenSpec.ofChange fnExactMineTextSpec)) fnExactMineTextCard

/-- THE TIED CARD OF 'laws.FnExactReadMine'. -/
def fnExactReadMineCard : Claim7 := { stood := { row := fnExactReadMineRow, standIns := [], harness := (true, "888c733235df3732ac9ee9f86a2bc48a86b9c95f3698516c983a8d779f6f4e7b"), looks := true }, kinds := [], alts := [], laidByText := true, laidKinds := [.data, .data, .data, .data, .sentinel, .sentinel, .pinned], laidTests := true, laidLooks := .later }
def FnExactReadMineCardSaid : Prop := Claim7.holds Tryd.pinned (.plain (OpenSpec.ofChange fnExactReadMineSpec)) fnExactReadMineCard

/-- THE TIED CARD OF 'laws.FnBasics'. -/
def fnBasicsCard : Claim7 := { stood := { row := fnBasicsRow, standIns := [], harness := (true, "888c733235df3732ac9ee9f86a2bc48a86b9c95f3698516c983a8d779f6f4e7b"), looks := true }, kinds := [], alts := [], laidByText := true, laidKinds := [.data, .data, .data, .data, .sentinel, .sentinel, .pinned], laidTests := true, laidLooks := .later }
def FnBasicsCardSaid : Prop := Claim7.holds Tryd.pinned (.plain (OpenSpec.ofChange fnBasicsSpec)) fnBasicsCard

/-- THE SECOND FORM's CARD OF 'laws.FnExactMineText'. -/
def fnExactMineTextUptoCard : Claim7 := { stood := { row := fnExactMineTextUptoRow, standIns := [], harness := (true, "888c733235df3732ac9ee9f86a2bc48a86b9c95f3698516c983a8d779f6f4e7b"), looks := true }, kinds := [], alts := [], laidByText := true, laidKinds := [.data, .data, .data], laidTests := true, laidLooks := .later }
def FnExactMineTextUptoCardSaid : Prop := Claim7.holds Tryd.pinned (.plain (OpenSpec.upto fnExactMineTextSpec)) fnExactMineTextUptoCard

/-- THE SECOND FORM's CARD OF 'laws.FnExactReadMine'. -/
def fnExactReadMineUptoCard : Claim7 := { stood := { row := fnExactReadMineUptoRow, standIns := [], harness := (true, "888c733235df3732ac9ee9f86a2bc48a86b9c95f3698516c983a8d779f6f4e7b"), looks := true }, kinds := [], alts := [], laidByText := true, laidKinds := [.data, .data, .data, .data, .sentinel, .sentinel, .pinned], laidTests := true, laidLooks := .later }
def FnExactReadMineUptoCardSaid : Prop := Claim7.holds Tryd.pinned (.plain (OpenSpec.upto fnExactReadMineSpec)) fnExactReadMineUptoCard

/-- THE SECOND FORM's CARD OF 'laws.FnBasics'. -/
def fnBasicsUptoCard : Claim7 := { stood := { row := fnBasicsUptoRow, standIns := [], harness := (true, "888c733235df3732ac9ee9f86a2bc48a86b9c95f3698516c983a8d779f6f4e7b"), looks := true }, kinds := [], alts := [], laidByText := true, laidKinds := [.data, .data, .data, .data, .sentinel, .sentinel, .pinned], laidTests := true, laidLooks := .later }
def FnBasicsUptoCardSaid : Prop := Claim7.holds Tryd.pinned (.plain (OpenSpec.upto fnBasicsSpec)) fnBasicsUptoCard
end Rows
end Go.Proofs.YtofpecgmnodflaaDoor
