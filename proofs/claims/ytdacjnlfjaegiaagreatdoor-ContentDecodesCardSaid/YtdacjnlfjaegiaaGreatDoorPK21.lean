/- The reference's stripping. No condition. -/
import Derived.Test.YtdacjnlfjaegiaaGreatDoorPK20
namespace Go.Proofs.YtdacjnlfjaegiaaGreatDoor
open Go Go.RowKit
set_option linter.unusedVariables false
set_option linter.unusedSimpArgs false
set_option maxRecDepth 100000

theorem sz0 : (⟨#[]⟩ : ByteArray).size ≤ 9223372036854775807 := by decide
theorem in0 : i64B 0 := by unfold i64B; decide
end Go.Proofs.YtdacjnlfjaegiaaGreatDoor
