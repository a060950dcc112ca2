/- The reference's encoding of a content. Bounds: SmE. No condition. -/
import Derived.Test.YtdacjnlfjaegiaaGreatDoorPK25
import Derived.Test.YtdacjnlfjaegiaaGreatDoorPTc
namespace Go.Proofs.YtdacjnlfjaegiaaGreatDoor
open Go Go.RowKit
set_option linter.unusedVariables false
set_option linter.unusedSimpArgs false
set_option maxRecDepth 100000

/-- A function gave these bytes. -/
def SlR (w : World) (zs : List Int) (e : Ending) (w' : World) : Prop := ∃ A c, e = .returned (.slice A zs.length c) ∧ Cd.Sl w' A zs.length c zs ∧ Below w.heap.size w w'
def Y1 (xs : List Int) (us : List (ByteArray × Int)) (k : Nat) : List Int := (xs ++ eI us.length) ++ encU (us.take k)
end Go.Proofs.YtdacjnlfjaegiaaGreatDoor
