/- The reference of Check. No condition. -/
import Derived.Test.YtablocpcgknmaaaGreatDoorRV4
namespace Go.Proofs.YtablocpcgknmaaaGreatDoor
open Go.Lib (hid)
open Go Go.RowKit
set_option linter.unusedVariables false
set_option linter.unusedSimpArgs false
set_option maxRecDepth 100000

end Go.Proofs.YtablocpcgknmaaaGreatDoor
