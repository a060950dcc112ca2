/- EventStrips: its walk. No condition. -/
import Derived.Test.YtablocpcgknmaaaGreatDoorRPh
import Derived.Test.YtablocpcgknmaaaGreatDoorRV18
import Derived.Test.YtablocpcgknmaaaGreatDoorRV7T
namespace Go.Proofs.YtablocpcgknmaaaGreatDoor
open Go.Lib (hid)
open Go Go.RowKit
set_option linter.unusedVariables false
set_option linter.unusedSimpArgs false
set_option maxRecDepth 100000

def Qz (q : Bool) (P : Prop) : Prop := q = true → P
theorem Qz.yes {P : Prop} (h : Qz true P) : P := h rfl
end Go.Proofs.YtablocpcgknmaaaGreatDoor
