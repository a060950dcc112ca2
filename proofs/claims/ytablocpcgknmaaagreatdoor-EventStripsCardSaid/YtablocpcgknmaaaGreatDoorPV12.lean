/- The reference of Encode. No condition. -/
import Derived.Test.YtablocpcgknmaaaGreatDoorPV11
namespace Go.Proofs.YtablocpcgknmaaaGreatDoor
open Go Go.RowKit
set_option linter.unusedVariables false
set_option linter.unusedSimpArgs false
set_option maxRecDepth 100000

end Go.Proofs.YtablocpcgknmaaaGreatDoor
