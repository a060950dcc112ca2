/- RatesSoonest where the tokens come after some time. Condition: that. -/
import Derived.Test.YtcnbeflfndfndaaS1
namespace Go.Proofs.Ytcnbeflfndfndaa
open Go.RowKit
set_option linter.unusedVariables false

set_option maxHeartbeats 1600000 in
theorem soon_good (L A M E x1 x2 x3 v : Int) (h0 : 0 ≤ x1) (h1 : x1 ≤ 1000000000) (hw : wt L A M E x1 x2 = v) (hv0 : 0 ≤ v) (hv1 : v ≤ 1000000000)
    (hy : Ok L A M E ∧ 1 ≤ x2 ∧ 0 ≤ x1 + v ∧ x1 + v ≤ 1000000000) (hy2 : x2 ≤ cnt L A M E (x1 + v)) (hz : v = 0 ∨ (Ok L A M E ∧ 1 ≤ x2 ∧ 0 ≤ x1 + v - 1 ∧ x1 + v - 1 ≤ 1000000000) ∧ cnt L A M E (x1 + v - 1) < x2) (w : World) :
    Calls Try.prog 6 #[bk L A M E, .int .i64 x1, .int .i64 x2, .int .i64 x3] w fun e w' => e = .returned (.bool true) ∧ Below w.heap.size w w' := by
  have HBB := Lib.hid (box_start w L A M E)
  have c1 : ∀ w, Calls Try.prog 19 #[bk L A M E, .int .i64 x1, .int .i64 x2] w fun e w' => e = .returned (.int .i64 v) ∧ Below w.heap.size w w' := fun w => (wait_any L A M E x1 x2 w).mono fun e w' ⟨he, hb⟩ => ⟨by rw [he, hw], hb⟩
  obtain ⟨a, b, c, d, r, hr, hr0, _, _⟩ := tk_form L A M E (x1 + v) x2
  obtain ⟨a2, b2, c2, d2, r2, hs, _, hs25, _⟩ := tk_form L A M E (x1 + v - 1) x2
  obtain rfl : r = 0 := hr0 hy hy2
  have t1 : ∀ w, Calls Try.prog 15 #[bk L A M E, .int .i64 (x1 + v), .int .i64 x2] w fun e w' => e = .returned (.tuple #[bk a b c d, .int .i64 0]) ∧ Below w.heap.size w w' := fun w => (take_any L A M E (x1 + v) x2 w).mono fun e w' ⟨he, hb⟩ => ⟨by rw [he, hr], hb⟩
  have t2 : ∀ w, Calls Try.prog 15 #[bk L A M E, .int .i64 (x1 + v - 1), .int .i64 x2] w fun e w' => e = .returned (.tuple #[bk a2 b2 c2 d2, .int .i64 r2]) ∧ Below w.heap.size w w' := fun w => (take_any L A M E (x1 + v - 1) x2 w).mono fun e w' ⟨he, hb⟩ => ⟨by rw [he, hs], hb⟩
  have d0 : decide (x1 < 0) = false := by simp; omega
  have d1 : decide (1000000000 < x1) = false := by simp; omega
  have g : (v == 0) = true ∨ (v == 0) = false ∧ (r2 == 25) = true := by
    rcases hz with h | ⟨h, h2⟩
    · exact .inl (beq_iff_eq.2 h)
    · by_cases e : v = 0
      · exact .inl (beq_iff_eq.2 e)
      · exact .inr ⟨beq_eq_false_iff_ne.2 e, beq_iff_eq.2 (hs25 h h2)⟩
  have C1 := Lib.hid c1
  have T1 := Lib.hid t1
  have T2 := Lib.hid t2
  clear c1 t1 t2 hw hr hs hr0 hs25 hy hy2 hz
  rcases g with g | ⟨g, g2⟩
  · go_enter Try.func6, Try.ntmps6
    go_wp2_with (first
      | (go_at_call 19; ((with_reducible refine (C1.out _).mono ?_); rintro e w1 ⟨rfl, hb1⟩; have HB1 := Lib.hid (HBB.out.below hb1); obtain ⟨k0, k1, k2, k3, kf, kl⟩ := HB1.out))
      | (go_at_call 15; ((with_reducible refine (T1.out _).mono ?_); rintro e w2 ⟨rfl, hb2⟩; have HB2 := Lib.hid ((HB1.out.below hb2).alloc (.cells #[.int .i64 a, .int .i64 b, .int .i64 c, .int .i64 d] 23)); clear k0 k1 k2 k3 kf kl; obtain ⟨k0, k1, k2, k3, kf, kl⟩ := HB2.out))
      | (go_at_call 15; ((with_reducible refine (T2.out _).mono ?_); rintro e w3 ⟨rfl, hb3⟩))
      | (go_at_call 14; refine (live_any _).mono ?_; rintro e w4 ⟨rfl, hb4⟩))
    go_ret
    exact ⟨rfl, bstep (bstep (bgo (start_soon w w1 L A M E hb1) hb2) hb3) hb4⟩
  · go_enter Try.func6, Try.ntmps6
    go_wp2_with (first
      | (go_at_call 19; ((with_reducible refine (C1.out _).mono ?_); rintro e w1 ⟨rfl, hb1⟩; have HB1 := Lib.hid (HBB.out.below hb1); obtain ⟨k0, k1, k2, k3, kf, kl⟩ := HB1.out))
      | (go_at_call 15; ((with_reducible refine (T1.out _).mono ?_); rintro e w2 ⟨rfl, hb2⟩; have HB2 := Lib.hid ((HB1.out.below hb2).alloc (.cells #[.int .i64 a, .int .i64 b, .int .i64 c, .int .i64 d] 23)); clear k0 k1 k2 k3 kf kl; obtain ⟨k0, k1, k2, k3, kf, kl⟩ := HB2.out))
      | (go_at_call 15; ((with_reducible refine (T2.out _).mono ?_); rintro e w3 ⟨rfl, hb3⟩))
      | (go_at_call 14; refine (live_any _).mono ?_; rintro e w4 ⟨rfl, hb4⟩))
    go_ret
    exact ⟨rfl, bstep (bstep (bgo (start_soon w w1 L A M E hb1) hb2) hb3) hb4⟩
end Go.Proofs.Ytcnbeflfndfndaa
