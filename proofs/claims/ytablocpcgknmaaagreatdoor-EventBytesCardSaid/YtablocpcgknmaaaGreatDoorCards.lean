/-
  DERIVED. GIVEN WITH THE SEED: THE CARDS: each row of YtablocpcgknmaaaGreatDoorRows.lean that lists a variable, with what it lists TIED to the program's text (the seventh form; the later family's looks); each row that meets fmt, with fmt's text TOLD by the authors' own Lean function (tested against real Go, not proved from fmt's source: count such statements apart). THE CARD IS WHAT COUNTS. Prove the row's statement (the work); the ties are given (YtablocpcgknmaaaGreatDoorTie.lean); close each card by the builder's one call (the guide's Derived/Test/ToyasCard.lean, 'card_holds'). Laid BY PROGRAM, IN A SANDBOX (cutbox-door.mjs). By AI agents, Wed Nov 11 2026. No macro, syntax, notation, axiom, sorry.
-/
import Derived.Test.YtablocpcgknmaaaGreatDoorRows
import GoSem.ClaimSeven
namespace Go.Proofs.YtablocpcgknmaaaGreatDoor
namespace Rows

/-- THE TIED CARD OF 'fedchatlaw07.EventChecks'. -/
def eventChecksCard : Claim7 := { stood := { row := eventChecksRow, standIns := [], harness := (true, "ccd9d1d847392c9054cd7ce703c4dd7c6be7350ceb0a1d47047c934260b22c0a"), looks := false }, kinds := [], alts := [], laidByText := true, laidKinds := [.data, .data], laidTests := true, laidLooks := .later }
def EventChecksCardSaid : Prop := Claim7.holds Tryz.pinned (.plain (OpenSpec.ofChange eventChecksSpec)) eventChecksCard

/-- THE TIED CARD OF 'fedchatlaw07.EventIds'. -/
def eventIdsCard : Claim7 := { stood := { row := eventIdsRow, standIns := [], harness := (true, "ccd9d1d847392c9054cd7ce703c4dd7c6be7350ceb0a1d47047c934260b22c0a"), looks := false }, kinds := [], alts := [], laidByText := true, laidKinds := [.data, .data], laidTests := true, laidLooks := .later }
def EventIdsCardSaid : Prop := Claim7.holds Tryz.pinned (.plain (OpenSpec.ofChange eventIdsSpec)) eventIdsCard

/-- THE TIED CARD OF 'fedchatlaw07.EventStrips'. -/
def eventStripsCard : Claim7 := { stood := { row := eventStripsRow, standIns := [], harness := (true, "ccd9d1d847392c9054cd7ce703c4dd7c6be7350ceb0a1d47047c934260b22c0a"), looks := false }, kinds := [], alts := [], laidByText := true, laidKinds := [.data, .data], laidTests := true, laidLooks := .later }
def EventStripsCardSaid : Prop := Claim7.holds Tryz.pinned (.plain (OpenSpec.ofChange eventStripsSpec)) eventStripsCard

/-- THE TIED CARD OF 'fedchatlaw07.EventSigns'. -/
def eventSignsCard : Claim7 := { stood := { row := eventSignsRow, standIns := [], harness := (true, "ccd9d1d847392c9054cd7ce703c4dd7c6be7350ceb0a1d47047c934260b22c0a"), looks := false }, kinds := [], alts := [], laidByText := true, laidKinds := [.data, .data], laidTests := true, laidLooks := .later }
def EventSignsCardSaid : Prop := Claim7.holds Tryz.pinned (.plain (OpenSpec.ofChange eventSignsSpec)) eventSignsCard

/-- THE TIED CARD OF 'fedchatlaw07.EventReceives'. -/
def eventReceivesCard : Claim7 := { stood := { row := eventReceivesRow, standIns := [], harness := (true, "ccd9d1d847392c9054cd7ce703c4dd7c6be7350ceb0a1d47047c934260b22c0a"), looks := false }, kinds := [], alts := [], laidByText := true, laidKinds := [.data, .data], laidTests := true, laidLooks := .later }
def EventReceivesCardSaid : Prop := Claim7.holds Tryz.pinned (.plain (OpenSpec.ofChange eventReceivesSpec)) eventReceivesCard

/-- THE TIED CARD OF 'fedchatlaw07.EventTampers'. -/
def eventTampersCard : Claim7 := { stood := { row := eventTampersRow, standIns := [], harness := (true, "ccd9d1d847392c9054cd7ce703c4dd7c6be7350ceb0a1d47047c934260b22c0a"), looks := false }, kinds := [], alts := [], laidByText := true, laidKinds := [.data, .data], laidTests := true, laidLooks := .later }
def EventTampersCardSaid : Prop := Claim7.holds Tryz.pinned (.plain (OpenSpec.ofChange eventTampersSpec)) eventTampersCard

/-- THE TIED CARD OF 'fedchatlaw07.EventContents'. -/
def eventContentsCard : Claim7 := { stood := { row := eventContentsRow, standIns := [], harness := (true, "ccd9d1d847392c9054cd7ce703c4dd7c6be7350ceb0a1d47047c934260b22c0a"), looks := false }, kinds := [], alts := [], laidByText := true, laidKinds := [.data, .data], laidTests := true, laidLooks := .later }
def EventContentsCardSaid : Prop := Claim7.holds Tryz.pinned (.plain (OpenSpec.ofChange eventContentsSpec)) eventContentsCard

/-- THE TIED CARD OF 'fedchatlaw07.EventBytes'. -/
def eventBytesCard : Claim7 := { stood := { row := eventBytesRow, standIns := [], harness := (true, "ccd9d1d847392c9054cd7ce703c4dd7c6be7350ceb0a1d47047c934260b22c0a"), looks := false }, kinds := [], alts := [], laidByText := true, laidKinds := [.data, .data], laidTests := true, laidLooks := .later }
def EventBytesCardSaid : Prop := Claim7.holds Tryz.pinned (.plain (OpenSpec.ofChange eventBytesSpec)) eventBytesCard

/-- THE TIED CARD OF 'fedchatlaw07.EventDecodes'. -/
def eventDecodesCard : Claim7 := { stood := { row := eventDecodesRow, standIns := [], harness := (true, "ccd9d1d847392c9054cd7ce703c4dd7c6be7350ceb0a1d47047c934260b22c0a"), looks := false }, kinds := [], alts := [], laidByText := true, laidKinds := [.data, .data], laidTests := true, laidLooks := .later }
def EventDecodesCardSaid : Prop := Claim7.holds Tryz.pinned (.plain (OpenSpec.ofChange eventDecodesSpec)) eventDecodesCard

/-- THE TIED CARD OF 'fedchatlaw07.EventSame'. -/
def eventSameCard : Claim7 := { stood := { row := eventSameRow, standIns := [], harness := (true, "ccd9d1d847392c9054cd7ce703c4dd7c6be7350ceb0a1d47047c934260b22c0a"), looks := false }, kinds := [], alts := [], laidByText := true, laidKinds := [.data, .data], laidTests := true, laidLooks := .later }
def EventSameCardSaid : Prop := Claim7.holds Tryz.pinned (.plain (OpenSpec.ofChange eventSameSpec)) eventSameCard

/-- THE SECOND FORM's CARD OF 'fedchatlaw07.EventChecks'. -/
def eventChecksUptoCard : Claim7 := { stood := { row := eventChecksUptoRow, standIns := [], harness := (true, "ccd9d1d847392c9054cd7ce703c4dd7c6be7350ceb0a1d47047c934260b22c0a"), looks := false }, kinds := [], alts := [], laidByText := true, laidKinds := [.data, .data], laidTests := true, laidLooks := .later }
def EventChecksUptoCardSaid : Prop := Claim7.holds Tryz.pinned (.plain (OpenSpec.upto eventChecksSpec)) eventChecksUptoCard

/-- THE SECOND FORM's CARD OF 'fedchatlaw07.EventIds'. -/
def eventIdsUptoCard : Claim7 := { stood := { row := eventIdsUptoRow, standIns := [], harness := (true, "ccd9d1d847392c9054cd7ce703c4dd7c6be7350ceb0a1d47047c934260b22c0a"), looks := false }, kinds := [], alts := [], laidByText := true, laidKinds := [.data, .data], laidTests := true, laidLooks := .later }
def EventIdsUptoCardSaid : Prop := Claim7.holds Tryz.pinned (.plain (OpenSpec.upto eventIdsSpec)) eventIdsUptoCard

/-- THE SECOND FORM's CARD OF 'fedchatlaw07.EventStrips'. -/
def eventStripsUptoCard : Claim7 := { stood := { row := eventStripsUptoRow, standIns := [], harness := (true, "ccd9d1d847392c9054cd7ce703c4dd7c6be7350ceb0a1d47047c934260b22c0a"), looks := false }, kinds := [], alts := [], laidByText := true, laidKinds := [.data, .data], laidTests := true, laidLooks := .later }
def EventStripsUptoCardSaid : Prop := Claim7.holds Tryz.pinned (.plain (OpenSpec.upto eventStripsSpec)) eventStripsUptoCard

/-- THE SECOND FORM's CARD OF 'fedchatlaw07.EventSigns'. -/
def eventSignsUptoCard : Claim7 := { stood := { row := eventSignsUptoRow, standIns := [], harness := (true, "ccd9d1d847392c9054cd7ce703c4dd7c6be7350ceb0a1d47047c934260b22c0a"), looks := false }, kinds := [], alts := [], laidByText := true, laidKinds := [.data, .data], laidTests := true, laidLooks := .later }
def EventSignsUptoCardSaid : Prop := Claim7.holds Tryz.pinned (.plain (OpenSpec.upto eventSignsSpec)) eventSignsUptoCard

/-- THE SECOND FORM's CARD OF 'fedchatlaw07.EventReceives'. -/
def eventReceivesUptoCard : Claim7 := { stood := { row := eventReceivesUptoRow, standIns := [], harness := (true, "ccd9d1d847392c9054cd7ce703c4dd7c6be7350ceb0a1d47047c934260b22c0a"), looks := false }, kinds := [], alts := [], laidByText := true, laidKinds := [.data, .data], laidTests := true, laidLooks := .later }
def EventReceivesUptoCardSaid : Prop := Claim7.holds Tryz.pinned (.plain (OpenSpec.upto eventReceivesSpec)) eventReceivesUptoCard

/-- THE SECOND FORM's CARD OF 'fedchatlaw07.EventTampers'. -/
def eventTampersUptoCard : Claim7 := { stood := { row := eventTampersUptoRow, standIns := [], harness := (true, "ccd9d1d847392c9054cd7ce703c4dd7c6be7350ceb0a1d47047c934260b22c0a"), looks := false }, kinds := [], alts := [], laidByText := true, laidKinds := [.data, .data], laidTests := true, laidLooks := .later }
def EventTampersUptoCardSaid : Prop := Claim7.holds Tryz.pinned (.plain (OpenSpec.upto eventTampersSpec)) eventTampersUptoCard

/-- THE SECOND FORM's CARD OF 'fedchatlaw07.EventContents'. -/
def eventContentsUptoCard : Claim7 := { stood := { row := eventContentsUptoRow, standIns := [], harness := (true, "ccd9d1d847392c9054cd7ce703c4dd7c6be7350ceb0a1d47047c934260b22c0a"), looks := false }, kinds := [], alts := [], laidByText := true, laidKinds := [.data, .data], laidTests := true, laidLooks := .later }
def EventContentsUptoCardSaid : Prop := Claim7.holds Tryz.pinned (.plain (OpenSpec.upto eventContentsSpec)) eventContentsUptoCard

/-- THE SECOND FORM's CARD OF 'fedchatlaw07.EventBytes'. -/
def eventBytesUptoCard : Claim7 := { stood := { row := eventBytesUptoRow, standIns := [], harness := (true, "ccd9d1d847392c9054cd7ce703c4dd7c6be7350ceb0a1d47047c934260b22c0a"), looks := false }, kinds := [], alts := [], laidByText := true, laidKinds := [.data, .data], laidTests := true, laidLooks := .later }
def EventBytesUptoCardSaid : Prop := Claim7.holds Tryz.pinned (.plain (OpenSpec.upto eventBytesSpec)) eventBytesUptoCard

/-- THE SECOND FORM's CARD OF 'fedchatlaw07.EventDecodes'. -/
def eventDecodesUptoCard : Claim7 := { stood := { row := eventDecodesUptoRow, standIns := [], harness := (true, "ccd9d1d847392c9054cd7ce703c4dd7c6be7350ceb0a1d47047c934260b22c0a"), looks := false }, kinds := [], alts := [], laidByText := true, laidKinds := [.data, .data], laidTests := true, laidLooks := .later }
def EventDecodesUptoCardSaid : Prop := Claim7.holds Tryz.pinned (.plain (OpenSpec.upto eventDecodesSpec)) eventDecodesUptoCard

/-- THE SECOND FORM's CARD OF 'fedchatlaw07.EventSame'. -/
def eventSameUptoCard : Claim7 := { stood := { row := eventSameUptoRow, standIns := [], harness := (true, "ccd9d1d847392c9054cd7ce703c4dd7c6be7350ceb0a1d47047c934260b22c0a"), looks := false }, kinds := [], alts := [], laidByText := true, laidKinds := [.data, .data], laidTests := true, laidLooks := .later }
def EventSameUptoCardSaid : Prop := Claim7.holds Tryz.pinned (.plain (OpenSpec.upto eventSameSpec)) eventSameUptoCard
end Rows
end Go.Proofs.YtablocpcgknmaaaGreatDoor
