/- EventStrips: its walk. No condition. -/
import Derived.Test.YtablocpcgknmaaaGreatDoorQPh
import Derived.Test.YtablocpcgknmaaaGreatDoorQV18
import Derived.Test.YtablocpcgknmaaaGreatDoorQV7T
namespace Go.Proofs.YtablocpcgknmaaaGreatDoor
open Go.Lib (hid)
open Go Go.RowKit
set_option linter.unusedVariables false
set_option linter.unusedSimpArgs false
set_option maxRecDepth 100000

def Qz (q : Bool) (P : Prop) : Prop := q = true → P
theorem Qz.yes {P : Prop} (h : Qz true P) : P := h rfl
theorem str_str (E : Ew) : strE (strE E) = strE E := by
 unfold strE Ew.wc
 rw [strip_strip]
end Go.Proofs.YtablocpcgknmaaaGreatDoor
