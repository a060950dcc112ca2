/-
  DERIVED. GIVEN WITH THE SEED: THE CARDS: each row of YtnhjbknhbeicfaaDoorRows.lean that lists a variable, with what it lists TIED to the program's text (the seventh form; the later family's looks); each row that meets fmt, with fmt's text TOLD by the authors' own Lean function (tested against real Go, not proved from fmt's source: count such statements apart). THE CARD IS WHAT COUNTS. Prove the row's statement (the work); the ties are given (YtnhjbknhbeicfaaDoorTie.lean); close each card by the builder's one call (the guide's Derived/Test/ToyasCard.lean, 'card_holds'). Laid BY PROGRAM, IN A SANDBOX (cutbox-door.mjs). By AI agents, Wed Nov 11 2026. No macro, syntax, notation, axiom, sorry.
-/
import Derived.Test.YtnhjbknhbeicfaaDoorRows
import GoSem.ClaimSeven
namespace Go.Proofs.YtnhjbknhbeicfaaDoor
namespace Rows

/-- THE TIED CARD OF 'fedchatlaw12.MembersOf'. -/
def membersOfCard : Claim7 := { stood := { row := membersOfRow, standIns := [], harness := (true, "93aa241184d1c29669533034c2911dd28aebf1d6a05ff6cbedcd2a5c50ea88cb"), looks := false }, kinds := [], alts := [], laidByText := true, laidKinds := [.data, .data], laidTests := true, laidLooks := .later }
def MembersOfCardSaid : Prop := Claim7.holds Tryd.pinned (.plain (OpenSpec.ofChange membersOfSpec)) membersOfCard

/-- THE TIED CARD OF 'fedchatlaw12.MembersServers'. -/
def membersServersCard : Claim7 := { stood := { row := membersServersRow, standIns := [], harness := (true, "93aa241184d1c29669533034c2911dd28aebf1d6a05ff6cbedcd2a5c50ea88cb"), looks := false }, kinds := [], alts := [], laidByText := true, laidKinds := [.data, .data], laidTests := true, laidLooks := .later }
def MembersServersCardSaid : Prop := Claim7.holds Tryd.pinned (.plain (OpenSpec.ofChange membersServersSpec)) membersServersCard

/-- THE TIED CARD OF 'fedchatlaw12.MembersMoves'. -/
def membersMovesCard : Claim7 := { stood := { row := membersMovesRow, standIns := [], harness := (true, "93aa241184d1c29669533034c2911dd28aebf1d6a05ff6cbedcd2a5c50ea88cb"), looks := false }, kinds := [], alts := [], laidByText := true, laidKinds := [.data, .data], laidTests := true, laidLooks := .later }
def MembersMovesCardSaid : Prop := Claim7.holds Tryd.pinned (.plain (OpenSpec.ofChange membersMovesSpec)) membersMovesCard

/-- THE TIED CARD OF 'fedchatlaw12.MembersInStates'. -/
def membersInStatesCard : Claim7 := { stood := { row := membersInStatesRow, standIns := [], harness := (true, "93aa241184d1c29669533034c2911dd28aebf1d6a05ff6cbedcd2a5c50ea88cb"), looks := false }, kinds := [], alts := [], laidByText := true, laidKinds := [.data, .data], laidTests := true, laidLooks := .later }
def MembersInStatesCardSaid : Prop := Claim7.holds Tryd.pinned (.plain (OpenSpec.ofChange membersInStatesSpec)) membersInStatesCard

/-- THE TIED CARD OF 'fedchatlaw12.MembersParts'. -/
def membersPartsCard : Claim7 := { stood := { row := membersPartsRow, standIns := [], harness := (true, "93aa241184d1c29669533034c2911dd28aebf1d6a05ff6cbedcd2a5c50ea88cb"), looks := false }, kinds := [], alts := [], laidByText := true, laidKinds := [.data, .data], laidTests := true, laidLooks := .later }
def MembersPartsCardSaid : Prop := Claim7.holds Tryd.pinned (.plain (OpenSpec.ofChange membersPartsSpec)) membersPartsCard

/-- THE TIED CARD OF 'fedchatlaw12.MembersWalks'. -/
def membersWalksCard : Claim7 := { stood := { row := membersWalksRow, standIns := [], harness := (true, "93aa241184d1c29669533034c2911dd28aebf1d6a05ff6cbedcd2a5c50ea88cb"), looks := false }, kinds := [], alts := [], laidByText := true, laidKinds := [.data, .data], laidTests := true, laidLooks := .later }
def MembersWalksCardSaid : Prop := Claim7.holds Tryd.pinned (.plain (OpenSpec.ofChange membersWalksSpec)) membersWalksCard

/-- THE SECOND FORM's CARD OF 'fedchatlaw12.MembersOf'. -/
def membersOfUptoCard : Claim7 := { stood := { row := membersOfUptoRow, standIns := [], harness := (true, "93aa241184d1c29669533034c2911dd28aebf1d6a05ff6cbedcd2a5c50ea88cb"), looks := false }, kinds := [], alts := [], laidByText := true, laidKinds := [.data, .data], laidTests := true, laidLooks := .later }
def MembersOfUptoCardSaid : Prop := Claim7.holds Tryd.pinned (.plain (OpenSpec.upto membersOfSpec)) membersOfUptoCard

/-- THE SECOND FORM's CARD OF 'fedchatlaw12.MembersServers'. -/
def membersServersUptoCard : Claim7 := { stood := { row := membersServersUptoRow, standIns := [], harness := (true, "93aa241184d1c29669533034c2911dd28aebf1d6a05ff6cbedcd2a5c50ea88cb"), looks := false }, kinds := [], alts := [], laidByText := true, laidKinds := [.data, .data], laidTests := true, laidLooks := .later }
def MembersServersUptoCardSaid : Prop := Claim7.holds Tryd.pinned (.plain (OpenSpec.upto membersServersSpec)) membersServersUptoCard

/-- THE SECOND FORM's CARD OF 'fedchatlaw12.MembersMoves'. -/
def membersMovesUptoCard : Claim7 := { stood := { row := membersMovesUptoRow, standIns := [], harness := (true, "93aa241184d1c29669533034c2911dd28aebf1d6a05ff6cbedcd2a5c50ea88cb"), looks := false }, kinds := [], alts := [], laidByText := true, laidKinds := [.data, .data], laidTests := true, laidLooks := .later }
def MembersMovesUptoCardSaid : Prop := Claim7.holds Tryd.pinned (.plain (OpenSpec.upto membersMovesSpec)) membersMovesUptoCard

/-- THE SECOND FORM's CARD OF 'fedchatlaw12.MembersInStates'. -/
def membersInStatesUptoCard : Claim7 := { stood := { row := membersInStatesUptoRow, standIns := [], harness := (true, "93aa241184d1c29669533034c2911dd28aebf1d6a05ff6cbedcd2a5c50ea88cb"), looks := false }, kinds := [], alts := [], laidByText := true, laidKinds := [.data, .data], laidTests := true, laidLooks := .later }
def MembersInStatesUptoCardSaid : Prop := Claim7.holds Tryd.pinned (.plain (OpenSpec.upto membersInStatesSpec)) membersInStatesUptoCard

/-- THE SECOND FORM's CARD OF 'fedchatlaw12.MembersParts'. -/
def membersPartsUptoCard : Claim7 := { stood := { row := membersPartsUptoRow, standIns := [], harness := (true, "93aa241184d1c29669533034c2911dd28aebf1d6a05ff6cbedcd2a5c50ea88cb"), looks := false }, kinds := [], alts := [], laidByText := true, laidKinds := [.data, .data], laidTests := true, laidLooks := .later }
def MembersPartsUptoCardSaid : Prop := Claim7.holds Tryd.pinned (.plain (OpenSpec.upto membersPartsSpec)) membersPartsUptoCard

/-- THE SECOND FORM's CARD OF 'fedchatlaw12.MembersWalks'. -/
def membersWalksUptoCard : Claim7 := { stood := { row := membersWalksUptoRow, standIns := [], harness := (true, "93aa241184d1c29669533034c2911dd28aebf1d6a05ff6cbedcd2a5c50ea88cb"), looks := false }, kinds := [], alts := [], laidByText := true, laidKinds := [.data, .data], laidTests := true, laidLooks := .later }
def MembersWalksUptoCardSaid : Prop := Claim7.holds Tryd.pinned (.plain (OpenSpec.upto membersWalksSpec)) membersWalksUptoCard
end Rows
end Go.Proofs.YtnhjbknhbeicfaaDoor
