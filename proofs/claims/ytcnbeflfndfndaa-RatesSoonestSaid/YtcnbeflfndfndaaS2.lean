/- RatesSoonest where the tokens never come. Condition: that. -/
import Derived.Test.YtcnbeflfndfndaaS1
namespace Go.Proofs.Ytcnbeflfndfndaa
open Go.RowKit
set_option linter.unusedVariables false

set_option maxHeartbeats 1600000 in
theorem soon_never (L A M E x1 x2 x3 T : Int) (h0 : 0 ≤ x1) (h1 : x1 ≤ 1000000000) (hw : wt L A M E x1 x2 = -1) (hT : (x1 < x3 ∧ T = x3) ∨ (x3 ≤ x1 ∧ T = x1)) (hc : ¬ (Ok L A M E ∧ 1 ≤ x2 ∧ 0 ≤ T ∧ T ≤ 1000000000 ∧ x2 ≤ cnt L A M E T)) (w : World) :
    Calls Try.prog 6 #[bk L A M E, .int .i64 x1, .int .i64 x2, .int .i64 x3] w fun e w' => e = .returned (.bool true) ∧ Below w.heap.size w w' := by
  have HBB := Lib.hid (box_start w L A M E)
  have c1 : ∀ w, Calls Try.prog 19 #[bk L A M E, .int .i64 x1, .int .i64 x2] w fun e w' => e = .returned (.int .i64 (-1)) ∧ Below w.heap.size w w' := fun w => (wait_any L A M E x1 x2 w).mono fun e w' ⟨he, hb⟩ => ⟨by rw [he, hw], hb⟩
  obtain ⟨a, b, c, d, r, hr, _, _, hne⟩ := tk_form L A M E T x2
  have c2 : ∀ w, Calls Try.prog 15 #[bk L A M E, .int .i64 T, .int .i64 x2] w fun e w' => e = .returned (.tuple #[bk a b c d, .int .i64 r]) ∧ Below w.heap.size w w' := fun w => (take_any L A M E T x2 w).mono fun e w' ⟨he, hb⟩ => ⟨by rw [he, hr], hb⟩
  have hn : (r != 0) = true := bne_iff_ne.2 (hne hc)
  have d0 : decide (x1 < 0) = false := by simp; omega
  have d1 : decide (1000000000 < x1) = false := by simp; omega
  have C1 := Lib.hid c1
  have C2 := Lib.hid c2
  clear c1 c2 hw hr hne hc
  rcases hT with ⟨hT, rfl⟩ | ⟨hT, rfl⟩
  · go_enter Try.func6, Try.ntmps6
    go_wp2_with (first
      | (go_at_call 19; ((with_reducible refine (C1.out _).mono ?_); rintro e w1 ⟨rfl, hb1⟩; obtain ⟨k0, k1, k2, k3, kf, kl⟩ := HBB.out.below hb1))
      | (go_at_call 15; ((with_reducible refine (C2.out _).mono ?_); rintro e w2 ⟨rfl, hb2⟩))
      | (go_at_call 14; refine (live_any _).mono ?_; rintro e w3 ⟨rfl, hb3⟩))
    go_ret
    exact ⟨rfl, bstep (bgo (start_soon w w1 L A M E hb1) hb2) hb3⟩
  · go_enter Try.func6, Try.ntmps6
    go_wp2_with (first
      | (go_at_call 19; ((with_reducible refine (C1.out _).mono ?_); rintro e w1 ⟨rfl, hb1⟩; obtain ⟨k0, k1, k2, k3, kf, kl⟩ := HBB.out.below hb1))
      | (go_at_call 15; ((with_reducible refine (C2.out _).mono ?_); rintro e w2 ⟨rfl, hb2⟩))
      | (go_at_call 14; refine (live_any _).mono ?_; rintro e w3 ⟨rfl, hb3⟩))
    go_ret
    exact ⟨rfl, bstep (bgo (start_soon w w1 L A M E hb1) hb2) hb3⟩
end Go.Proofs.Ytcnbeflfndfndaa
