/- Check and the reference's check agree. No condition. -/
import Derived.Test.YtdacjnlfjaegiaaGreatDoorPK16
namespace Go.Proofs.YtdacjnlfjaegiaaGreatDoor
open Go Go.RowKit
set_option linter.unusedVariables false
set_option linter.unusedSimpArgs false
set_option maxRecDepth 100000

def rtail (k : Int) (C : Cn) : Int :=
    if ¬ txE k C.tx = 0 then txE k C.tx else if ¬ nmR k C.n = 0 then nmR k C.n else if ¬ tgR k C.tg C.th = 0 then tgR k C.tg C.th else if ¬ viE C.n C.via = 0 then viE C.n C.via else
    if k = 4 then chkR C.n C.al else if ¬ chkP C.al = 0 then chkP C.al else if ¬ chkP C.dn = 0 then chkP C.dn else chkL C.us C.ks (nmL C.d C.x3 C.x4 C.x5 C.x6 C.x7 C.x8)
end Go.Proofs.YtdacjnlfjaegiaaGreatDoor
