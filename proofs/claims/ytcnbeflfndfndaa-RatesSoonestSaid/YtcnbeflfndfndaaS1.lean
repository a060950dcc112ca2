/- RatesSoonest where the time is none of the system. Condition: that. -/
import Derived.Test.YtcnbeflfndfndaaLive
import Derived.Test.YtcnbeflfndfndaaM2
namespace Go.Proofs.Ytcnbeflfndfndaa
open Go.RowKit
set_option linter.unusedVariables false

theorem start_soon (w w1 : World) (L A M E : Int) (hb : Below (w.alloc (.cells #[.int .i64 L, .int .i64 A, .int .i64 M, .int .i64 E] 23)).heap.size (w.alloc (.cells #[.int .i64 L, .int .i64 A, .int .i64 M, .int .i64 E] 23)) w1) : Below w.heap.size w w1 :=
  ((Below.refl _ _).alloc (Nat.le_refl _) _).trans (hb.mono (by simp))

set_option maxHeartbeats 1600000 in
theorem walk_off (L A M E x1 x2 x3 : Int) (h : ¬ (0 ≤ x1 ∧ x1 ≤ 1000000000)) (w : World) :
    Calls Try.prog 6 #[bk L A M E, .int .i64 x1, .int .i64 x2, .int .i64 x3] w fun e w' => e = .returned (.bool true) ∧ Below w.heap.size w w' := by
  have hw : wt L A M E x1 x2 = -1 := (wt_bad (fun h2 => h ⟨h2.2.2.2.1, h2.2.2.2.2⟩)).symm
  have c1 : ∀ w, Calls Try.prog 19 #[bk L A M E, .int .i64 x1, .int .i64 x2] w fun e w' => e = .returned (.int .i64 (-1)) ∧ Below w.heap.size w w' := fun w => (wait_any L A M E x1 x2 w).mono fun e w' ⟨he, hb⟩ => ⟨by rw [he, hw], hb⟩
  have C1 := Lib.hid c1
  clear c1 hw
  by_cases h0 : x1 < 0
  · have d0 : decide (x1 < 0) = true := by simpa using h0
    clear h h0
    go_enter Try.func6, Try.ntmps6
    go_wp2_with (first
      | (go_at_call 19; refine (C1.out _).mono ?_; rintro e w1 ⟨rfl, hb1⟩)
      | (go_at_call 14; refine (live_any _).mono ?_; rintro e w2 ⟨rfl, hb2⟩))
    go_ret
    exact ⟨rfl, bgo (start_soon w w1 L A M E hb1) hb2⟩
  · have d0 : decide (x1 < 0) = false := by simpa using h0
    have d1 : decide (1000000000 < x1) = true := by simp; omega
    clear h h0
    go_enter Try.func6, Try.ntmps6
    go_wp2_with (first
      | (go_at_call 19; refine (C1.out _).mono ?_; rintro e w1 ⟨rfl, hb1⟩)
      | (go_at_call 14; refine (live_any _).mono ?_; rintro e w2 ⟨rfl, hb2⟩))
    go_ret
    exact ⟨rfl, bgo (start_soon w w1 L A M E hb1) hb2⟩

end Go.Proofs.Ytcnbeflfndfndaa
