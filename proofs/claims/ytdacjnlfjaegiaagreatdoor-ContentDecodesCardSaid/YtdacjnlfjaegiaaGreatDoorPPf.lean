/- What is small; kinds of states. No condition. -/
import Derived.Test.YtdacjnlfjaegiaaGreatDoorPPb
namespace Go.Proofs.YtdacjnlfjaegiaaGreatDoor
open Go Go.RowKit
set_option linter.unusedVariables false
set_option linter.unusedSimpArgs false
set_option maxRecDepth 100000

/-- A test that tells P. -/
def QB (P C : Prop) (e : Ending) : Prop := ∃ q, e = .returned (.bool q) ∧ (q = true → P) ∧ C
def stB (k : Int) : Bool := decide (1 ≤ k ∧ k ≤ 10)
set_option maxHeartbeats 1000000 in
theorem state27 (k : Int) (q : Bool) (hq : stB k = q) (w : World) : Calls Tryz.prog 27 #[.int .i64 k] w fun e w' => e = .returned (.bool q) ∧ w = w' := by
  by_cases h1 : 1 ≤ k
  · have z1 : k ≥ 1 := h1
    have d1 : decide (1 ≤ k) = true := decide_eq_true h1
    by_cases h2 : k ≤ 10
    · have HQ := Lib.hid (hq.symm.trans (decide_eq_true (And.intro h1 h2)))
      have d2 : decide (k ≤ 10) = true := decide_eq_true h2
      clear hq
      go_enter Tryz.func27, Tryz.ntmps27
      go_wp2
      go_ret
      exact ⟨ret_b HQ.out, rfl⟩
    · have HQ := Lib.hid (hq.symm.trans (decide_eq_false (fun h => h2 h.2)))
      have d2 : decide (k ≤ 10) = false := decide_eq_false h2
      clear hq
      go_enter Tryz.func27, Tryz.ntmps27
      go_wp2
      go_ret
      exact ⟨ret_b HQ.out, rfl⟩
  · have HQ := Lib.hid (hq.symm.trans (decide_eq_false (fun h => h1 h.1)))
    have z1 : ¬ k ≥ 1 := h1
    have d1 : decide (1 ≤ k) = false := decide_eq_false h1
    clear hq
    go_enter Tryz.func27, Tryz.ntmps27
    go_wp2
    go_ret
    exact ⟨ret_b HQ.out, rfl⟩
end Go.Proofs.YtdacjnlfjaegiaaGreatDoor
namespace Go.Proofs.YtdacjnlfjaegiaaGreatDoor
open Go Go.RowKit
set_option linter.unusedVariables false
set_option linter.unusedSimpArgs false
set_option maxRecDepth 100000

end Go.Proofs.YtdacjnlfjaegiaaGreatDoor
