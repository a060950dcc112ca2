/-
  DERIVED. GIVEN WITH THE SEED: THE CARDS: each row of YtdacjnlfjaegiaaGreatDoorRows.lean that lists a variable, with what it lists TIED to the program's text (the seventh form; the later family's looks); each row that meets fmt, with fmt's text TOLD by the authors' own Lean function (tested against real Go, not proved from fmt's source: count such statements apart). THE CARD IS WHAT COUNTS. Prove the row's statement (the work); the ties are given (YtdacjnlfjaegiaaGreatDoorTie.lean); close each card by the builder's one call (the guide's Derived/Test/ToyasCard.lean, 'card_holds'). Laid BY PROGRAM, IN A SANDBOX (cutbox-door.mjs). By AI agents, Wed Nov 11 2026. No macro, syntax, notation, axiom, sorry.
-/
import Derived.Test.YtdacjnlfjaegiaaGreatDoorRows
import GoSem.ClaimSeven
namespace Go.Proofs.YtdacjnlfjaegiaaGreatDoor
namespace Rows

/-- THE TIED CARD OF 'fedchatlaw06.ContentChecks'. -/
def contentChecksCard : Claim7 := { stood := { row := contentChecksRow, standIns := [], harness := (true, "23ec9e3f405fbb2869b6d03872b7aa9b56cd6d049adf2f19d3a157d0b589304c"), looks := false }, kinds := [], alts := [], laidByText := true, laidKinds := [.data, .data, .data], laidTests := true, laidLooks := .later }
def ContentChecksCardSaid : Prop := Claim7.holds Tryz.pinned (.plain (OpenSpec.ofChange contentChecksSpec)) contentChecksCard

/-- THE TIED CARD OF 'fedchatlaw06.ContentLevels'. -/
def contentLevelsCard : Claim7 := { stood := { row := contentLevelsRow, standIns := [], harness := (true, "23ec9e3f405fbb2869b6d03872b7aa9b56cd6d049adf2f19d3a157d0b589304c"), looks := false }, kinds := [], alts := [], laidByText := true, laidKinds := [.data, .data, .data], laidTests := true, laidLooks := .later }
def ContentLevelsCardSaid : Prop := Claim7.holds Tryz.pinned (.plain (OpenSpec.ofChange contentLevelsSpec)) contentLevelsCard

/-- THE TIED CARD OF 'fedchatlaw06.ContentStrips'. -/
def contentStripsCard : Claim7 := { stood := { row := contentStripsRow, standIns := [], harness := (true, "23ec9e3f405fbb2869b6d03872b7aa9b56cd6d049adf2f19d3a157d0b589304c"), looks := false }, kinds := [], alts := [], laidByText := true, laidKinds := [.data, .data, .data], laidTests := true, laidLooks := .later }
def ContentStripsCardSaid : Prop := Claim7.holds Tryz.pinned (.plain (OpenSpec.ofChange contentStripsSpec)) contentStripsCard

/-- THE TIED CARD OF 'fedchatlaw06.ContentSames'. -/
def contentSamesCard : Claim7 := { stood := { row := contentSamesRow, standIns := [], harness := (true, "23ec9e3f405fbb2869b6d03872b7aa9b56cd6d049adf2f19d3a157d0b589304c"), looks := false }, kinds := [], alts := [], laidByText := true, laidKinds := [.data, .data, .data], laidTests := true, laidLooks := .later }
def ContentSamesCardSaid : Prop := Claim7.holds Tryz.pinned (.plain (OpenSpec.ofChange contentSamesSpec)) contentSamesCard

/-- THE TIED CARD OF 'fedchatlaw06.ContentEncodes'. -/
def contentEncodesCard : Claim7 := { stood := { row := contentEncodesRow, standIns := [], harness := (true, "23ec9e3f405fbb2869b6d03872b7aa9b56cd6d049adf2f19d3a157d0b589304c"), looks := false }, kinds := [], alts := [], laidByText := true, laidKinds := [.data, .data, .data], laidTests := true, laidLooks := .later }
def ContentEncodesCardSaid : Prop := Claim7.holds Tryz.pinned (.plain (OpenSpec.ofChange contentEncodesSpec)) contentEncodesCard

/-- THE TIED CARD OF 'fedchatlaw06.ContentDecodes'. -/
def contentDecodesCard : Claim7 := { stood := { row := contentDecodesRow, standIns := [], harness := (true, "23ec9e3f405fbb2869b6d03872b7aa9b56cd6d049adf2f19d3a157d0b589304c"), looks := false }, kinds := [], alts := [], laidByText := true, laidKinds := [.data, .data, .data], laidTests := true, laidLooks := .later }
def ContentDecodesCardSaid : Prop := Claim7.holds Tryz.pinned (.plain (OpenSpec.ofChange contentDecodesSpec)) contentDecodesCard

/-- THE TIED CARD OF 'fedchatlaw06.ContentApart'. -/
def contentApartCard : Claim7 := { stood := { row := contentApartRow, standIns := [], harness := (true, "23ec9e3f405fbb2869b6d03872b7aa9b56cd6d049adf2f19d3a157d0b589304c"), looks := false }, kinds := [], alts := [], laidByText := true, laidKinds := [.data, .data, .data], laidTests := true, laidLooks := .later }
def ContentApartCardSaid : Prop := Claim7.holds Tryz.pinned (.plain (OpenSpec.ofChange contentApartSpec)) contentApartCard

/-- THE TIED CARD OF 'fedchatlaw06.ContentStripsAgain'. -/
def contentStripsAgainCard : Claim7 := { stood := { row := contentStripsAgainRow, standIns := [], harness := (true, "23ec9e3f405fbb2869b6d03872b7aa9b56cd6d049adf2f19d3a157d0b589304c"), looks := false }, kinds := [], alts := [], laidByText := true, laidKinds := [.data, .data, .data], laidTests := true, laidLooks := .later }
def ContentStripsAgainCardSaid : Prop := Claim7.holds Tryz.pinned (.plain (OpenSpec.ofChange contentStripsAgainSpec)) contentStripsAgainCard

/-- THE TIED CARD OF 'fedchatlaw06.ContentUses'. -/
def contentUsesCard : Claim7 := { stood := { row := contentUsesRow, standIns := [], harness := (true, "23ec9e3f405fbb2869b6d03872b7aa9b56cd6d049adf2f19d3a157d0b589304c"), looks := false }, kinds := [], alts := [], laidByText := true, laidKinds := [.data, .data, .data], laidTests := true, laidLooks := .later }
def ContentUsesCardSaid : Prop := Claim7.holds Tryz.pinned (.plain (OpenSpec.ofChange contentUsesSpec)) contentUsesCard

/-- THE TIED CARD OF 'fedchatlaw06.ContentRemains'. -/
def contentRemainsCard : Claim7 := { stood := { row := contentRemainsRow, standIns := [], harness := (true, "23ec9e3f405fbb2869b6d03872b7aa9b56cd6d049adf2f19d3a157d0b589304c"), looks := false }, kinds := [], alts := [], laidByText := true, laidKinds := [.data, .data, .data], laidTests := true, laidLooks := .later }
def ContentRemainsCardSaid : Prop := Claim7.holds Tryz.pinned (.plain (OpenSpec.ofChange contentRemainsSpec)) contentRemainsCard

/-- THE SECOND FORM's CARD OF 'fedchatlaw06.ContentChecks'. -/
def contentChecksUptoCard : Claim7 := { stood := { row := contentChecksUptoRow, standIns := [], harness := (true, "23ec9e3f405fbb2869b6d03872b7aa9b56cd6d049adf2f19d3a157d0b589304c"), looks := false }, kinds := [], alts := [], laidByText := true, laidKinds := [.data, .data, .data], laidTests := true, laidLooks := .later }
def ContentChecksUptoCardSaid : Prop := Claim7.holds Tryz.pinned (.plain (OpenSpec.upto contentChecksSpec)) contentChecksUptoCard

/-- THE SECOND FORM's CARD OF 'fedchatlaw06.ContentLevels'. -/
def contentLevelsUptoCard : Claim7 := { stood := { row := contentLevelsUptoRow, standIns := [], harness := (true, "23ec9e3f405fbb2869b6d03872b7aa9b56cd6d049adf2f19d3a157d0b589304c"), looks := false }, kinds := [], alts := [], laidByText := true, laidKinds := [.data, .data, .data], laidTests := true, laidLooks := .later }
def ContentLevelsUptoCardSaid : Prop := Claim7.holds Tryz.pinned (.plain (OpenSpec.upto contentLevelsSpec)) contentLevelsUptoCard

/-- THE SECOND FORM's CARD OF 'fedchatlaw06.ContentStrips'. -/
def contentStripsUptoCard : Claim7 := { stood := { row := contentStripsUptoRow, standIns := [], harness := (true, "23ec9e3f405fbb2869b6d03872b7aa9b56cd6d049adf2f19d3a157d0b589304c"), looks := false }, kinds := [], alts := [], laidByText := true, laidKinds := [.data, .data, .data], laidTests := true, laidLooks := .later }
def ContentStripsUptoCardSaid : Prop := Claim7.holds Tryz.pinned (.plain (OpenSpec.upto contentStripsSpec)) contentStripsUptoCard

/-- THE SECOND FORM's CARD OF 'fedchatlaw06.ContentSames'. -/
def contentSamesUptoCard : Claim7 := { stood := { row := contentSamesUptoRow, standIns := [], harness := (true, "23ec9e3f405fbb2869b6d03872b7aa9b56cd6d049adf2f19d3a157d0b589304c"), looks := false }, kinds := [], alts := [], laidByText := true, laidKinds := [.data, .data, .data], laidTests := true, laidLooks := .later }
def ContentSamesUptoCardSaid : Prop := Claim7.holds Tryz.pinned (.plain (OpenSpec.upto contentSamesSpec)) contentSamesUptoCard

/-- THE SECOND FORM's CARD OF 'fedchatlaw06.ContentEncodes'. -/
def contentEncodesUptoCard : Claim7 := { stood := { row := contentEncodesUptoRow, standIns := [], harness := (true, "23ec9e3f405fbb2869b6d03872b7aa9b56cd6d049adf2f19d3a157d0b589304c"), looks := false }, kinds := [], alts := [], laidByText := true, laidKinds := [.data, .data, .data], laidTests := true, laidLooks := .later }
def ContentEncodesUptoCardSaid : Prop := Claim7.holds Tryz.pinned (.plain (OpenSpec.upto contentEncodesSpec)) contentEncodesUptoCard

/-- THE SECOND FORM's CARD OF 'fedchatlaw06.ContentDecodes'. -/
def contentDecodesUptoCard : Claim7 := { stood := { row := contentDecodesUptoRow, standIns := [], harness := (true, "23ec9e3f405fbb2869b6d03872b7aa9b56cd6d049adf2f19d3a157d0b589304c"), looks := false }, kinds := [], alts := [], laidByText := true, laidKinds := [.data, .data, .data], laidTests := true, laidLooks := .later }
def ContentDecodesUptoCardSaid : Prop := Claim7.holds Tryz.pinned (.plain (OpenSpec.upto contentDecodesSpec)) contentDecodesUptoCard

/-- THE SECOND FORM's CARD OF 'fedchatlaw06.ContentApart'. -/
def contentApartUptoCard : Claim7 := { stood := { row := contentApartUptoRow, standIns := [], harness := (true, "23ec9e3f405fbb2869b6d03872b7aa9b56cd6d049adf2f19d3a157d0b589304c"), looks := false }, kinds := [], alts := [], laidByText := true, laidKinds := [.data, .data, .data], laidTests := true, laidLooks := .later }
def ContentApartUptoCardSaid : Prop := Claim7.holds Tryz.pinned (.plain (OpenSpec.upto contentApartSpec)) contentApartUptoCard

/-- THE SECOND FORM's CARD OF 'fedchatlaw06.ContentStripsAgain'. -/
def contentStripsAgainUptoCard : Claim7 := { stood := { row := contentStripsAgainUptoRow, standIns := [], harness := (true, "23ec9e3f405fbb2869b6d03872b7aa9b56cd6d049adf2f19d3a157d0b589304c"), looks := false }, kinds := [], alts := [], laidByText := true, laidKinds := [.data, .data, .data], laidTests := true, laidLooks := .later }
def ContentStripsAgainUptoCardSaid : Prop := Claim7.holds Tryz.pinned (.plain (OpenSpec.upto contentStripsAgainSpec)) contentStripsAgainUptoCard

/-- THE SECOND FORM's CARD OF 'fedchatlaw06.ContentUses'. -/
def contentUsesUptoCard : Claim7 := { stood := { row := contentUsesUptoRow, standIns := [], harness := (true, "23ec9e3f405fbb2869b6d03872b7aa9b56cd6d049adf2f19d3a157d0b589304c"), looks := false }, kinds := [], alts := [], laidByText := true, laidKinds := [.data, .data, .data], laidTests := true, laidLooks := .later }
def ContentUsesUptoCardSaid : Prop := Claim7.holds Tryz.pinned (.plain (OpenSpec.upto contentUsesSpec)) contentUsesUptoCard

/-- THE SECOND FORM's CARD OF 'fedchatlaw06.ContentRemains'. -/
def contentRemainsUptoCard : Claim7 := { stood := { row := contentRemainsUptoRow, standIns := [], harness := (true, "23ec9e3f405fbb2869b6d03872b7aa9b56cd6d049adf2f19d3a157d0b589304c"), looks := false }, kinds := [], alts := [], laidByText := true, laidKinds := [.data, .data, .data], laidTests := true, laidLooks := .later }
def ContentRemainsUptoCardSaid : Prop := Claim7.holds Tryz.pinned (.plain (OpenSpec.upto contentRemainsSpec)) contentRemainsUptoCard
end Rows
end Go.Proofs.YtdacjnlfjaegiaaGreatDoor
