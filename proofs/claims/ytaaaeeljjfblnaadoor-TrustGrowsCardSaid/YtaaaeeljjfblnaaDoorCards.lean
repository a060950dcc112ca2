/-
  DERIVED. GIVEN WITH THE SEED: THE CARDS: each row of YtaaaeeljjfblnaaDoorRows.lean that lists a variable, with what it lists TIED to the program's text (the seventh form; the later family's looks); each row that meets fmt, with fmt's text TOLD by the authors' own Lean function (tested against real Go, not proved from fmt's source: count such statements apart). THE CARD IS WHAT COUNTS. Prove the row's statement (the work); the ties are given (YtaaaeeljjfblnaaDoorTie.lean); close each card by the builder's one call (the guide's Derived/Test/ToyasCard.lean, 'card_holds'). Laid BY PROGRAM, IN A SANDBOX (cutbox-door.mjs). By AI agents, Wed Nov 11 2026. No macro, syntax, notation, axiom, sorry.
-/
import Derived.Test.YtaaaeeljjfblnaaDoorRows
import GoSem.ClaimSeven
namespace Go.Proofs.YtaaaeeljjfblnaaDoor
namespace Rows

/-- THE TIED CARD OF 'fedchatlaw46.TrustOf'. -/
def trustOfCard : Claim7 := { stood := { row := trustOfRow, standIns := [], harness := (true, "21ad0c728d540fd2f37901c51ddcad41c60a591db00a8c988ef46d9c1ad408f6"), looks := false }, kinds := [], alts := [], laidByText := true, laidKinds := [.data], laidTests := true, laidLooks := .later }
def TrustOfCardSaid : Prop := Claim7.holds Tryd.pinned (.plain (OpenSpec.ofChange trustOfSpec)) trustOfCard

/-- THE TIED CARD OF 'fedchatlaw46.TrustLists'. -/
def trustListsCard : Claim7 := { stood := { row := trustListsRow, standIns := [], harness := (true, "21ad0c728d540fd2f37901c51ddcad41c60a591db00a8c988ef46d9c1ad408f6"), looks := false }, kinds := [], alts := [], laidByText := true, laidKinds := [.data], laidTests := true, laidLooks := .later }
def TrustListsCardSaid : Prop := Claim7.holds Tryd.pinned (.plain (OpenSpec.ofChange trustListsSpec)) trustListsCard

/-- THE TIED CARD OF 'fedchatlaw46.TrustGrounds'. -/
def trustGroundsCard : Claim7 := { stood := { row := trustGroundsRow, standIns := [], harness := (true, "21ad0c728d540fd2f37901c51ddcad41c60a591db00a8c988ef46d9c1ad408f6"), looks := false }, kinds := [], alts := [], laidByText := true, laidKinds := [.data], laidTests := true, laidLooks := .later }
def TrustGroundsCardSaid : Prop := Claim7.holds Tryd.pinned (.plain (OpenSpec.ofChange trustGroundsSpec)) trustGroundsCard

/-- THE TIED CARD OF 'fedchatlaw46.TrustGrows'. -/
def trustGrowsCard : Claim7 := { stood := { row := trustGrowsRow, standIns := [], harness := (true, "21ad0c728d540fd2f37901c51ddcad41c60a591db00a8c988ef46d9c1ad408f6"), looks := false }, kinds := [], alts := [], laidByText := true, laidKinds := [.data], laidTests := true, laidLooks := .later }
def TrustGrowsCardSaid : Prop := Claim7.holds Tryd.pinned (.plain (OpenSpec.ofChange trustGrowsSpec)) trustGrowsCard

/-- THE SECOND FORM's CARD OF 'fedchatlaw46.TrustOf'. -/
def trustOfUptoCard : Claim7 := { stood := { row := trustOfUptoRow, standIns := [], harness := (true, "21ad0c728d540fd2f37901c51ddcad41c60a591db00a8c988ef46d9c1ad408f6"), looks := false }, kinds := [], alts := [], laidByText := true, laidKinds := [.data], laidTests := true, laidLooks := .later }
def TrustOfUptoCardSaid : Prop := Claim7.holds Tryd.pinned (.plain (OpenSpec.upto trustOfSpec)) trustOfUptoCard

/-- THE SECOND FORM's CARD OF 'fedchatlaw46.TrustLists'. -/
def trustListsUptoCard : Claim7 := { stood := { row := trustListsUptoRow, standIns := [], harness := (true, "21ad0c728d540fd2f37901c51ddcad41c60a591db00a8c988ef46d9c1ad408f6"), looks := false }, kinds := [], alts := [], laidByText := true, laidKinds := [.data], laidTests := true, laidLooks := .later }
def TrustListsUptoCardSaid : Prop := Claim7.holds Tryd.pinned (.plain (OpenSpec.upto trustListsSpec)) trustListsUptoCard

/-- THE SECOND FORM's CARD OF 'fedchatlaw46.TrustGrounds'. -/
def trustGroundsUptoCard : Claim7 := { stood := { row := trustGroundsUptoRow, standIns := [], harness := (true, "21ad0c728d540fd2f37901c51ddcad41c60a591db00a8c988ef46d9c1ad408f6"), looks := false }, kinds := [], alts := [], laidByText := true, laidKinds := [.data], laidTests := true, laidLooks := .later }
def TrustGroundsUptoCardSaid : Prop := Claim7.holds Tryd.pinned (.plain (OpenSpec.upto trustGroundsSpec)) trustGroundsUptoCard

/-- THE SECOND FORM's CARD OF 'fedchatlaw46.TrustGrows'. -/
def trustGrowsUptoCard : Claim7 := { stood := { row := trustGrowsUptoRow, standIns := [], harness := (true, "21ad0c728d540fd2f37901c51ddcad41c60a591db00a8c988ef46d9c1ad408f6"), looks := false }, kinds := [], alts := [], laidByText := true, laidKinds := [.data], laidTests := true, laidLooks := .later }
def TrustGrowsUptoCardSaid : Prop := Claim7.holds Tryd.pinned (.plain (OpenSpec.upto trustGrowsSpec)) trustGrowsUptoCard
end Rows
end Go.Proofs.YtaaaeeljjfblnaaDoor
