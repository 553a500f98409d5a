/-
  DERIVED. GIVEN WITH THE SEED: THE CARDS: each row of YthbofhlfggkolaaDoorRows.lean that lists a variable, with what it lists TIED to the program's text (the seventh form; the later family's looks); each row that meets fmt, with fmt's text TOLD by the authors' own Lean function (tested against real Go, not proved from fmt's source: count such statements apart). THE CARD IS WHAT COUNTS. Prove the row's statement (the work); the ties are given (YthbofhlfggkolaaDoorTie.lean); close each card by the builder's one call (the guide's Derived/Test/ToyasCard.lean, 'card_holds'). Laid BY PROGRAM, IN A SANDBOX (cutbox-door.mjs). By AI agents, Wed Nov 11 2026. No macro, syntax, notation, axiom, sorry.
-/
import Derived.Test.YthbofhlfggkolaaDoorRows
import GoSem.ClaimSeven
namespace Go.Proofs.YthbofhlfggkolaaDoor
namespace Rows

/-- THE TIED CARD OF 'laws.FnExactSourceText'. -/
def fnExactSourceTextCard : Claim7 := { stood := { row := fnExactSourceTextRow, standIns := [], harness := (true, "da6ae22ac0b456fc7d3111de2cff6aa8272e6fc60b1792f8e908e87950cbcd8c"), looks := true }, kinds := [], alts := [], laidByText := true, laidKinds := [.data, .data, .data], laidTests := true, laidLooks := .later }
def FnExactSourceTextCardSaid : Prop := Claim7.holds Tryd.pinned (.plain (OpenSpec.ofChange fnExactSourceTextSpec)) fnExactSourceTextCard

/-- THE TIED CARD OF 'laws.FnExactReadSource'. -/
def fnExactReadSourceCard : Claim7 := { stood := { row := fnExactReadSourceRow, standIns := [], harness := (true, "da6ae22ac0b456fc7d3111de2cff6aa8272e6fc60b1792f8e908e87950cbcd8c"), looks := true }, kinds := [], alts := [], laidByText := true, laidKinds := [.data, .data, .data, .data, .sentinel, .sentinel, .pinned], laidTests := true, laidLooks := .later }
def FnExactReadSourceCardSaid : Prop := Claim7.holds Tryd.pinned (.plain (OpenSpec.ofChange fnExactReadSourceSpec)) fnExactReadSourceCard

/-- THE TIED CARD OF 'laws.FnExactPotentialsOf'. -/
def fnExactPotentialsOfCard : Claim7 := { stood := { row := fnExactPotentialsOfRow, standIns := [], harness := (true, "da6ae22ac0b456fc7d3111de2cff6aa8272e6fc60b1792f8e908e87950cbcd8c"), looks := true }, kinds := [], alts := [], laidByText := true, laidKinds := [.sentinel, .sentinel], laidTests := true, laidLooks := .later }
def FnExactPotentialsOfCardSaid : Prop := Claim7.holds Tryd.pinned (.plain (OpenSpec.ofChange fnExactPotentialsOfSpec)) fnExactPotentialsOfCard

/-- THE TIED CARD OF 'laws.FnExactRegulatorDrops'. -/
def fnExactRegulatorDropsCard : Claim7 := { stood := { row := fnExactRegulatorDropsRow, standIns := [], harness := (true, "da6ae22ac0b456fc7d3111de2cff6aa8272e6fc60b1792f8e908e87950cbcd8c"), looks := true }, kinds := [], alts := [], laidByText := true, laidKinds := [.sentinel, .sentinel], laidTests := true, laidLooks := .later }
def FnExactRegulatorDropsCardSaid : Prop := Claim7.holds Tryd.pinned (.plain (OpenSpec.ofChange fnExactRegulatorDropsSpec)) fnExactRegulatorDropsCard

/-- THE TIED CARD OF 'laws.FnExactLeastPush'. -/
def fnExactLeastPushCard : Claim7 := { stood := { row := fnExactLeastPushRow, standIns := [], harness := (true, "da6ae22ac0b456fc7d3111de2cff6aa8272e6fc60b1792f8e908e87950cbcd8c"), looks := true }, kinds := [], alts := [], laidByText := true, laidKinds := [.sentinel], laidTests := true, laidLooks := .later }
def FnExactLeastPushCardSaid : Prop := Claim7.holds Tryd.pinned (.plain (OpenSpec.ofChange fnExactLeastPushSpec)) fnExactLeastPushCard

/-- THE SECOND FORM's CARD OF 'laws.FnExactSourceText'. -/
def fnExactSourceTextUptoCard : Claim7 := { stood := { row := fnExactSourceTextUptoRow, standIns := [], harness := (true, "da6ae22ac0b456fc7d3111de2cff6aa8272e6fc60b1792f8e908e87950cbcd8c"), looks := true }, kinds := [], alts := [], laidByText := true, laidKinds := [.data, .data, .data], laidTests := true, laidLooks := .later }
def FnExactSourceTextUptoCardSaid : Prop := Claim7.holds Tryd.pinned (.plain (OpenSpec.upto fnExactSourceTextSpec)) fnExactSourceTextUptoCard

/-- THE SECOND FORM's CARD OF 'laws.FnExactReadSource'. -/
def fnExactReadSourceUptoCard : Claim7 := { stood := { row := fnExactReadSourceUptoRow, standIns := [], harness := (true, "da6ae22ac0b456fc7d3111de2cff6aa8272e6fc60b1792f8e908e87950cbcd8c"), looks := true }, kinds := [], alts := [], laidByText := true, laidKinds := [.data, .data, .data, .data, .sentinel, .sentinel, .pinned], laidTests := true, laidLooks := .later }
def FnExactReadSourceUptoCardSaid : Prop := Claim7.holds Tryd.pinned (.plain (OpenSpec.upto fnExactReadSourceSpec)) fnExactReadSourceUptoCard

/-- THE SECOND FORM's CARD OF 'laws.FnExactPotentialsOf'. -/
def fnExactPotentialsOfUptoCard : Claim7 := { stood := { row := fnExactPotentialsOfUptoRow, standIns := [], harness := (true, "da6ae22ac0b456fc7d3111de2cff6aa8272e6fc60b1792f8e908e87950cbcd8c"), looks := true }, kinds := [], alts := [], laidByText := true, laidKinds := [.sentinel, .sentinel], laidTests := true, laidLooks := .later }
def FnExactPotentialsOfUptoCardSaid : Prop := Claim7.holds Tryd.pinned (.plain (OpenSpec.upto fnExactPotentialsOfSpec)) fnExactPotentialsOfUptoCard

/-- THE SECOND FORM's CARD OF 'laws.FnExactRegulatorDrops'. -/
def fnExactRegulatorDropsUptoCard : Claim7 := { stood := { row := fnExactRegulatorDropsUptoRow, standIns := [], harness := (true, "da6ae22ac0b456fc7d3111de2cff6aa8272e6fc60b1792f8e908e87950cbcd8c"), looks := true }, kinds := [], alts := [], laidByText := true, laidKinds := [.sentinel, .sentinel], laidTests := true, laidLooks := .later }
def FnExactRegulatorDropsUptoCardSaid : Prop := Claim7.holds Tryd.pinned (.plain (OpenSpec.upto fnExactRegulatorDropsSpec)) fnExactRegulatorDropsUptoCard

/-- THE SECOND FORM's CARD OF 'laws.FnExactLeastPush'. -/
def fnExactLeastPushUptoCard : Claim7 := { stood := { row := fnExactLeastPushUptoRow, standIns := [], harness := (true, "da6ae22ac0b456fc7d3111de2cff6aa8272e6fc60b1792f8e908e87950cbcd8c"), looks := true }, kinds := [], alts := [], laidByText := true, laidKinds := [.sentinel], laidTests := true, laidLooks := .later }
def FnExactLeastPushUptoCardSaid : Prop := Claim7.holds Tryd.pinned (.plain (OpenSpec.upto fnExactLeastPushSpec)) fnExactLeastPushUptoCard
end Rows
end Go.Proofs.YthbofhlfggkolaaDoor
