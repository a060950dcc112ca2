/- Whether a kind uses a field (law). No condition. -/
import Derived.Test.YtdacjnlfjaegiaaGreatDoorPPe
import Derived.Test.YtdacjnlfjaegiaaGreatDoorPK37
namespace Go.Proofs.YtdacjnlfjaegiaaGreatDoor
open Go Go.RowKit
set_option linter.unusedVariables false
set_option linter.unusedSimpArgs false
set_option maxRecDepth 100000

end Go.Proofs.YtdacjnlfjaegiaaGreatDoor
