/- Arguments that are contents or power levels, opened. No condition. -/
import Derived.Test.YtdacjnlfjaegiaaGreatDoorPK20
import Derived.Test.YtdacjnlfjaegiaaGreatDoorPTg
import Derived.Lib.SmallJoins
import Derived.Deep.Slices
import Derived.ProofKit
import Derived.OpenShut
import Derived.ChangeSame
import Derived.SliceStrings
import Derived.Lib.SliceRun
namespace Go.Proofs.YtdacjnlfjaegiaaGreatDoor
open Go.ChangeShapes Go.WideShapes Go.ChangeAt Go.RowKit Go.Joins Go.Deep
set_option linter.unusedVariables false
set_option maxRecDepth 100000

section
variable {H : Type} {en : TypeId × Value → H} {w : World} {base : Nat} {spare : Nat → Bool} {held : Bool}
end
end Go.Proofs.YtdacjnlfjaegiaaGreatDoor
