/- The reference's check that a kind does not have what it does not use. No condition. -/
import Derived.Test.YtablocpcgknmaaaGreatDoorRPh
import Derived.Test.YtablocpcgknmaaaGreatDoorRK12
namespace Go.Proofs.YtablocpcgknmaaaGreatDoor
open Go.Lib (hid)
open Go Go.RowKit
set_option linter.unusedVariables false
set_option linter.unusedSimpArgs false
set_option maxRecDepth 100000

theorem zero_isL (w : World) : IsL w ⟨[], [], 0, 0, 0, 0, 0, 0, 0⟩ none 0 none 0 :=
 ⟨Rws.zero _ _ _ _ _ (fun _ => rfl), Rws.zero _ _ _ _ _ (fun _ => rfl), (fun p hp => by cases hp), (fun p hp => by cases hp), by unfold i64B; decide⟩
/-- No field is set that the kind does not use. -/
def onB (k : Int) (C : Cn) : Bool := ((C.tx.toList == []) || hasF (unL k) nText) && (((C.n == 0) || hasF (unL k) nN) && (((C.tg == 0) || hasF (unL k) nTarget) && (((!C.th) || hasF (unL k) nThread) && (((C.via.toList == []) || hasF (unL k) nVia) && ((((C.al.length : Int) == 0) || hasF (unL k) nAllow) && ((((C.dn.length : Int) == 0) || hasF (unL k) nDeny) && ((sameL C.us [] C.ks [] [C.d, C.x3, C.x4, C.x5, C.x6, C.x7, C.x8] [0, 0, 0, 0, 0, 0, 0] || hasF (unL k) nLevels))))))))
end Go.Proofs.YtablocpcgknmaaaGreatDoor
