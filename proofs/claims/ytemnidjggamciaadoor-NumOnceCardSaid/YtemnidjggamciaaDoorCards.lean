/-
  DERIVED. GIVEN WITH THE SEED: THE CARDS: each row of YtemnidjggamciaaDoorRows.lean that lists a variable, with what it lists TIED to the program's text (the seventh form; the later family's looks); each row that meets fmt, with fmt's text TOLD by the authors' own Lean function (tested against real Go, not proved from fmt's source: count such statements apart). THE CARD IS WHAT COUNTS. Prove the row's statement (the work); the ties are given (YtemnidjggamciaaDoorTie.lean); close each card by the builder's one call (the guide's Derived/Test/ToyasCard.lean, 'card_holds'). Laid BY PROGRAM, IN A SANDBOX (cutbox-door.mjs). By AI agents, Wed Nov 11 2026. No macro, syntax, notation, axiom, sorry.
-/
import Derived.Test.YtemnidjggamciaaDoorRows
import GoSem.ClaimSeven
namespace Go.Proofs.YtemnidjggamciaaDoor
namespace Rows

/-- THE TIED CARD OF 'fedchatlaw01.NumClips'. -/
def numClipsCard : Claim7 := { stood := { row := numClipsRow, standIns := [], harness := (true, "c96516d55b5b973b4fdd8285a8f92b86b99469fd7af449697676a2214949099e"), looks := false }, kinds := [], alts := [], laidByText := true, laidKinds := [.data], laidTests := true, laidLooks := .later }
def NumClipsCardSaid : Prop := Claim7.holds Tryd.pinned (.plain (OpenSpec.ofChange numClipsSpec)) numClipsCard

/-- THE TIED CARD OF 'fedchatlaw01.NumNearest'. -/
def numNearestCard : Claim7 := { stood := { row := numNearestRow, standIns := [], harness := (true, "c96516d55b5b973b4fdd8285a8f92b86b99469fd7af449697676a2214949099e"), looks := false }, kinds := [], alts := [], laidByText := true, laidKinds := [.data], laidTests := true, laidLooks := .later }
def NumNearestCardSaid : Prop := Claim7.holds Tryd.pinned (.plain (OpenSpec.ofChange numNearestSpec)) numNearestCard

/-- THE TIED CARD OF 'fedchatlaw01.NumTexts'. -/
def numTextsCard : Claim7 := { stood := { row := numTextsRow, standIns := [], harness := (true, "c96516d55b5b973b4fdd8285a8f92b86b99469fd7af449697676a2214949099e"), looks := false }, kinds := [], alts := [], laidByText := true, laidKinds := [.data], laidTests := true, laidLooks := .later }
def NumTextsCardSaid : Prop := Claim7.holds Tryd.pinned (.plain (OpenSpec.ofChange numTextsSpec)) numTextsCard

/-- THE TIED CARD OF 'fedchatlaw01.NumParses'. -/
def numParsesCard : Claim7 := { stood := { row := numParsesRow, standIns := [], harness := (true, "c96516d55b5b973b4fdd8285a8f92b86b99469fd7af449697676a2214949099e"), looks := false }, kinds := [], alts := [], laidByText := true, laidKinds := [.data], laidTests := true, laidLooks := .later }
def NumParsesCardSaid : Prop := Claim7.holds Tryd.pinned (.plain (OpenSpec.ofChange numParsesSpec)) numParsesCard

/-- THE TIED CARD OF 'fedchatlaw01.NumLists'. -/
def numListsCard : Claim7 := { stood := { row := numListsRow, standIns := [], harness := (true, "c96516d55b5b973b4fdd8285a8f92b86b99469fd7af449697676a2214949099e"), looks := false }, kinds := [], alts := [], laidByText := true, laidKinds := [.data], laidTests := true, laidLooks := .later }
def NumListsCardSaid : Prop := Claim7.holds Tryd.pinned (.plain (OpenSpec.ofChange numListsSpec)) numListsCard

/-- THE TIED CARD OF 'fedchatlaw01.NumSets'. -/
def numSetsCard : Claim7 := { stood := { row := numSetsRow, standIns := [], harness := (true, "c96516d55b5b973b4fdd8285a8f92b86b99469fd7af449697676a2214949099e"), looks := false }, kinds := [], alts := [], laidByText := true, laidKinds := [.data], laidTests := true, laidLooks := .later }
def NumSetsCardSaid : Prop := Claim7.holds Tryd.pinned (.plain (OpenSpec.ofChange numSetsSpec)) numSetsCard

/-- THE TIED CARD OF 'fedchatlaw01.NumOnce'. -/
def numOnceCard : Claim7 := { stood := { row := numOnceRow, standIns := [], harness := (true, "c96516d55b5b973b4fdd8285a8f92b86b99469fd7af449697676a2214949099e"), looks := false }, kinds := [], alts := [], laidByText := true, laidKinds := [.data], laidTests := true, laidLooks := .later }
def NumOnceCardSaid : Prop := Claim7.holds Tryd.pinned (.plain (OpenSpec.ofChange numOnceSpec)) numOnceCard

/-- THE TIED CARD OF 'fedchatlaw01.NumParts'. -/
def numPartsCard : Claim7 := { stood := { row := numPartsRow, standIns := [], harness := (true, "c96516d55b5b973b4fdd8285a8f92b86b99469fd7af449697676a2214949099e"), looks := false }, kinds := [], alts := [], laidByText := true, laidKinds := [.data], laidTests := true, laidLooks := .later }
def NumPartsCardSaid : Prop := Claim7.holds Tryd.pinned (.plain (OpenSpec.ofChange numPartsSpec)) numPartsCard

/-- THE SECOND FORM's CARD OF 'fedchatlaw01.NumClips'. -/
def numClipsUptoCard : Claim7 := { stood := { row := numClipsUptoRow, standIns := [], harness := (true, "c96516d55b5b973b4fdd8285a8f92b86b99469fd7af449697676a2214949099e"), looks := false }, kinds := [], alts := [], laidByText := true, laidKinds := [.data], laidTests := true, laidLooks := .later }
def NumClipsUptoCardSaid : Prop := Claim7.holds Tryd.pinned (.plain (OpenSpec.upto numClipsSpec)) numClipsUptoCard

/-- THE SECOND FORM's CARD OF 'fedchatlaw01.NumNearest'. -/
def numNearestUptoCard : Claim7 := { stood := { row := numNearestUptoRow, standIns := [], harness := (true, "c96516d55b5b973b4fdd8285a8f92b86b99469fd7af449697676a2214949099e"), looks := false }, kinds := [], alts := [], laidByText := true, laidKinds := [.data], laidTests := true, laidLooks := .later }
def NumNearestUptoCardSaid : Prop := Claim7.holds Tryd.pinned (.plain (OpenSpec.upto numNearestSpec)) numNearestUptoCard

/-- THE SECOND FORM's CARD OF 'fedchatlaw01.NumTexts'. -/
def numTextsUptoCard : Claim7 := { stood := { row := numTextsUptoRow, standIns := [], harness := (true, "c96516d55b5b973b4fdd8285a8f92b86b99469fd7af449697676a2214949099e"), looks := false }, kinds := [], alts := [], laidByText := true, laidKinds := [.data], laidTests := true, laidLooks := .later }
def NumTextsUptoCardSaid : Prop := Claim7.holds Tryd.pinned (.plain (OpenSpec.upto numTextsSpec)) numTextsUptoCard

/-- THE SECOND FORM's CARD OF 'fedchatlaw01.NumParses'. -/
def numParsesUptoCard : Claim7 := { stood := { row := numParsesUptoRow, standIns := [], harness := (true, "c96516d55b5b973b4fdd8285a8f92b86b99469fd7af449697676a2214949099e"), looks := false }, kinds := [], alts := [], laidByText := true, laidKinds := [.data], laidTests := true, laidLooks := .later }
def NumParsesUptoCardSaid : Prop := Claim7.holds Tryd.pinned (.plain (OpenSpec.upto numParsesSpec)) numParsesUptoCard

/-- THE SECOND FORM's CARD OF 'fedchatlaw01.NumLists'. -/
def numListsUptoCard : Claim7 := { stood := { row := numListsUptoRow, standIns := [], harness := (true, "c96516d55b5b973b4fdd8285a8f92b86b99469fd7af449697676a2214949099e"), looks := false }, kinds := [], alts := [], laidByText := true, laidKinds := [.data], laidTests := true, laidLooks := .later }
def NumListsUptoCardSaid : Prop := Claim7.holds Tryd.pinned (.plain (OpenSpec.upto numListsSpec)) numListsUptoCard

/-- THE SECOND FORM's CARD OF 'fedchatlaw01.NumSets'. -/
def numSetsUptoCard : Claim7 := { stood := { row := numSetsUptoRow, standIns := [], harness := (true, "c96516d55b5b973b4fdd8285a8f92b86b99469fd7af449697676a2214949099e"), looks := false }, kinds := [], alts := [], laidByText := true, laidKinds := [.data], laidTests := true, laidLooks := .later }
def NumSetsUptoCardSaid : Prop := Claim7.holds Tryd.pinned (.plain (OpenSpec.upto numSetsSpec)) numSetsUptoCard

/-- THE SECOND FORM's CARD OF 'fedchatlaw01.NumOnce'. -/
def numOnceUptoCard : Claim7 := { stood := { row := numOnceUptoRow, standIns := [], harness := (true, "c96516d55b5b973b4fdd8285a8f92b86b99469fd7af449697676a2214949099e"), looks := false }, kinds := [], alts := [], laidByText := true, laidKinds := [.data], laidTests := true, laidLooks := .later }
def NumOnceUptoCardSaid : Prop := Claim7.holds Tryd.pinned (.plain (OpenSpec.upto numOnceSpec)) numOnceUptoCard

/-- THE SECOND FORM's CARD OF 'fedchatlaw01.NumParts'. -/
def numPartsUptoCard : Claim7 := { stood := { row := numPartsUptoRow, standIns := [], harness := (true, "c96516d55b5b973b4fdd8285a8f92b86b99469fd7af449697676a2214949099e"), looks := false }, kinds := [], alts := [], laidByText := true, laidKinds := [.data], laidTests := true, laidLooks := .later }
def NumPartsUptoCardSaid : Prop := Claim7.holds Tryd.pinned (.plain (OpenSpec.upto numPartsSpec)) numPartsUptoCard
end Rows
end Go.Proofs.YtemnidjggamciaaDoor
