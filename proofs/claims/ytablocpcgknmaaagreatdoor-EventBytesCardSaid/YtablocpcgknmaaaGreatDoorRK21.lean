/- The reference's stripping. No condition. -/
import Derived.Test.YtablocpcgknmaaaGreatDoorRK20
namespace Go.Proofs.YtablocpcgknmaaaGreatDoor
open Go.Lib (hid)
open Go Go.RowKit
set_option linter.unusedVariables false
set_option linter.unusedSimpArgs false
set_option maxRecDepth 100000

theorem sz0 : (⟨#[]⟩ : ByteArray).size ≤ 9223372036854775807 := by decide
end Go.Proofs.YtablocpcgknmaaaGreatDoor
