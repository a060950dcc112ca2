/- What is small; kinds of states. No condition. -/
import Derived.Test.YtablocpcgknmaaaGreatDoorRTc
import Derived.Test.YtablocpcgknmaaaGreatDoorRK9
namespace Go.Proofs.YtablocpcgknmaaaGreatDoor
open Go.Lib (hid)
open Go Go.RowKit
set_option linter.unusedVariables false
set_option linter.unusedSimpArgs false
set_option maxRecDepth 100000

/-- A test that tells P. -/
def QB (P C : Prop) (e : Ending) : Prop := ∃ q, e = .returned (.bool q) ∧ (q = true → P) ∧ C
theorem qb_no {P C : Prop} (h : C) : QB P C (.returned (.bool false)) := ⟨_, rfl, fun e => Bool.noConfusion e, h⟩
theorem qb_yes {P C : Prop} (hp : P) (h : C) : QB P C (.returned (.bool true)) := ⟨_, rfl, fun _ => hp, h⟩
def stB (k : Int) : Bool := decide (1 ≤ k ∧ k ≤ 10)
set_option maxHeartbeats 1000000 in
theorem state27 (k : Int) (q : Bool) (hq : stB k = q) (w : World) : Calls Tryz.prog 43 #[.int .i64 k] w fun e w' => e = .returned (.bool q) ∧ w = w' := by
 by_cases h1 : 1 ≤ k
 ·have z1 : k ≥ 1 := h1
  have d1 : decide (1 ≤ k) = true := decide_eq_true h1
  by_cases h2 : k ≤ 10
  ·have HQ := hid (hq.symm.trans (decide_eq_true (And.intro h1 h2)))
   have d2 : decide (k ≤ 10) = true := decide_eq_true h2
   clear hq
   go_enter Tryz.func43, Tryz.ntmps43
   go_wp2
   go_ret
   exact ⟨ret_b HQ.out, rfl⟩
  ·have HQ := hid (hq.symm.trans (decide_eq_false (fun h => h2 h.2)))
   have d2 : decide (k ≤ 10) = false := decide_eq_false h2
   clear hq
   go_enter Tryz.func43, Tryz.ntmps43
   go_wp2
   go_ret
   exact ⟨ret_b HQ.out, rfl⟩
 ·have HQ := hid (hq.symm.trans (decide_eq_false (fun h => h1 h.1)))
  have z1 : ¬ k ≥ 1 := h1
  have d1 : decide (1 ≤ k) = false := decide_eq_false h1
  clear hq
  go_enter Tryz.func43, Tryz.ntmps43
  go_wp2
  go_ret
  exact ⟨ret_b HQ.out, rfl⟩
end Go.Proofs.YtablocpcgknmaaaGreatDoor
