/- The reference's check of a content. No condition. -/
import Derived.Test.YtablocpcgknmaaaGreatDoorRK7
import Derived.Test.YtablocpcgknmaaaGreatDoorRK13
namespace Go.Proofs.YtablocpcgknmaaaGreatDoor
open Go.Lib (hid)
open Go Go.RowKit
set_option linter.unusedVariables false
set_option linter.unusedSimpArgs false
set_option maxRecDepth 100000

def tgR (k : Int) (tg : Int) (th : Bool) : Int := if hasF (unL k) nTarget = true ∧ (tg < 0 ∨ (tg = 0 ∧ ¬ k = 11)) then 2 else if th = true ∧ tg = 0 then 1 else 0
def c0 : Cn := ⟨⟨#[]⟩, 0, 0, false, ⟨#[]⟩, [], [], [], [], 0, 0, 0, 0, 0, 0, 0⟩
theorem c0_is (w : World) : IsC w c0 ad0 := ⟨Txs.nil w, Txs.nil w, zero_isL w, by decide, by decide, by unfold i64B; decide, by unfold i64B; decide⟩
/-- What the reference's check gives. -/
def rchk (k : Int) (C : Cn) : Int :=
 if kdB k = false then 1 else if onB k C = false then 1 else if baB k = true ∧ sameC C c0 = true then 0 else
  if ¬ txE k C.tx = 0 then txE k C.tx else if ¬ nmR k C.n = 0 then nmR k C.n else if ¬ tgR k C.tg C.th = 0 then tgR k C.tg C.th else if ¬ viE C.n C.via = 0 then viE C.n C.via else
  if k = 4 then chkR C.n C.al else if ¬ chkP C.al = 0 then chkP C.al else if ¬ chkP C.dn = 0 then chkP C.dn else chkL C.us C.ks (nmL C.d C.x3 C.x4 C.x5 C.x6 C.x7 C.x8)
end Go.Proofs.YtablocpcgknmaaaGreatDoor
