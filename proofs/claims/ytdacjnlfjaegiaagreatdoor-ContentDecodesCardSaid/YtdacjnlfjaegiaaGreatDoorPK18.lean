/- Check and the reference's check agree, all kinds. No condition. -/
import Derived.Test.YtdacjnlfjaegiaaGreatDoorPK17
namespace Go.Proofs.YtdacjnlfjaegiaaGreatDoor
open Go Go.RowKit
set_option linter.unusedVariables false
set_option linter.unusedSimpArgs false
set_option maxRecDepth 100000

end Go.Proofs.YtdacjnlfjaegiaaGreatDoor
