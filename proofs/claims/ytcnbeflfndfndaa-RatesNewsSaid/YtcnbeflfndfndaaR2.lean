/- The walks of the reference's `Wait`, `Take` and `New`. Condition: the numbers are ints. -/
import Derived.Test.YtcnbeflfndfndaaR1
namespace Go.Proofs.Ytcnbeflfndfndaa
open Go.RowKit
set_option linter.unusedVariables false

set_option maxHeartbeats 1600000 in
theorem rwait_bad (L A M E now n : Int) (h : ¬ (Ok L A M E ∧ 1 ≤ n ∧ n ≤ M ∧ 0 ≤ now ∧ now ≤ 1000000000)) (w : World) :
    Calls Try.prog 20 #[bk L A M E, .int .i64 now, .int .i64 n] w fun e w' => e = .returned (.int .i64 (wt L A M E now n)) ∧ Below w.heap.size w w' := by
  have Hf := Lib.hid (wt_bad h)
  have HBB := Lib.hid (box_start w L A M E)
  by_cases ok : Ok L A M E
  · by_cases hn : n < 1
    · have d0 : decide (n < 1) = true := by simpa using hn
      clear h hn
      go_enter Try.func20, Try.ntmps20
      go_wp2_with (go_at_call 13; refine (rcheck_ok ok _).mono ?_; rintro e w1 ⟨rfl, hb1⟩; have HB1 := Lib.hid (HBB.out.below hb1); obtain ⟨k0, k1, k2, k3, kf, kl⟩ := HB1.out)
      go_ret
      exact ⟨ret_i64 Hf.out, Below.trans ((Below.refl _ _).alloc (Nat.le_refl _) _) (hb1.mono (by simp))⟩
    · have d0 : decide (n < 1) = false := by simpa using hn
      by_cases hm : M < n
      · have d1 : decide (M < n) = true := by simpa using hm
        clear h hn hm
        go_enter Try.func20, Try.ntmps20
        go_wp2_with (go_at_call 13; refine (rcheck_ok ok _).mono ?_; rintro e w1 ⟨rfl, hb1⟩; have HB1 := Lib.hid (HBB.out.below hb1); obtain ⟨k0, k1, k2, k3, kf, kl⟩ := HB1.out)
        go_ret
        exact ⟨ret_i64 Hf.out, Below.trans ((Below.refl _ _).alloc (Nat.le_refl _) _) (hb1.mono (by simp))⟩
      · have d1 : decide (M < n) = false := by simpa using hm
        by_cases ht : now < 0
        · have d2 : decide (now < 0) = true := by simpa using ht
          clear h hn hm ht
          go_enter Try.func20, Try.ntmps20
          go_wp2_with (go_at_call 13; refine (rcheck_ok ok _).mono ?_; rintro e w1 ⟨rfl, hb1⟩; have HB1 := Lib.hid (HBB.out.below hb1); obtain ⟨k0, k1, k2, k3, kf, kl⟩ := HB1.out)
          go_ret
          exact ⟨ret_i64 Hf.out, Below.trans ((Below.refl _ _).alloc (Nat.le_refl _) _) (hb1.mono (by simp))⟩
        · have d2 : decide (now < 0) = false := by simpa using ht
          by_cases hu : 1000000000 < now
          · have d3 : decide (1000000000 < now) = true := by simpa using hu
            clear h hn hm ht hu
            go_enter Try.func20, Try.ntmps20
            go_wp2_with (go_at_call 13; refine (rcheck_ok ok _).mono ?_; rintro e w1 ⟨rfl, hb1⟩; have HB1 := Lib.hid (HBB.out.below hb1); obtain ⟨k0, k1, k2, k3, kf, kl⟩ := HB1.out)
            go_ret
            exact ⟨ret_i64 Hf.out, Below.trans ((Below.refl _ _).alloc (Nat.le_refl _) _) (hb1.mono (by simp))⟩
          · have d3 : decide (1000000000 < now) = false := by simpa using hu
            exact absurd ⟨ok, by omega, by omega, by omega, by omega⟩ h
  · clear h
    go_enter Try.func20, Try.ntmps20
    go_wp2_with (go_at_call 13; refine (rcheck_bad ok _).mono ?_; rintro e w1 ⟨rfl, hb1⟩; obtain ⟨k0, k1, k2, k3, kf, kl⟩ := HBB.out.below hb1)
    go_ret
    exact ⟨ret_i64 Hf.out, Below.trans ((Below.refl _ _).alloc (Nat.le_refl _) _) (hb1.mono (by simp))⟩

set_option maxHeartbeats 1600000 in
theorem rwait_good (L A M E now n : Int) (h : Ok L A M E ∧ 1 ≤ n ∧ n ≤ M ∧ 0 ≤ now ∧ now ≤ 1000000000) (w : World) :
    Calls Try.prog 20 #[bk L A M E, .int .i64 now, .int .i64 n] w fun e w' => e = .returned (.int .i64 (wt L A M E now n)) ∧ Below w.heap.size w w' := by
  have HBB := Lib.hid (box_start w L A M E)
  have hh := h
  obtain ⟨ok, hn, hm, ht0, ht1⟩ := h
  have d1 : decide (n < 1) = false := by simp; omega
  have d2 : decide (M < n) = false := by simp; omega
  have d4 : decide (now < 0) = false := by simp; omega
  have d5 : decide (1000000000 < now) = false := by simp; omega
  have cl : ∀ w, Calls Try.prog 18 #[bk L A M E, .int .i64 now] w fun e w' => e = .returned (.int .i64 (cnt L A M E now)) ∧ Below w.heap.size w w' := fun w => (rleft_any L A M E now (by omega) (by omega) w).mono fun e w' ⟨he, hb⟩ => ⟨by rw [he, lef_yes ok], hb⟩
  have CL := Lib.hid cl
  clear cl
  by_cases h2 : n ≤ cnt L A M E now
  · have Hf := Lib.hid (wt_now hh h2)
    have d3 : decide (n ≤ cnt L A M E now) = true := by simpa using h2
    clear hh
    go_enter Try.func20, Try.ntmps20
    go_wp2_with (first
      | (go_at_call 13; refine (rcheck_ok ok _).mono ?_; rintro e w1 ⟨rfl, hb1⟩; have HB1 := Lib.hid (HBB.out.below hb1); obtain ⟨k0, k1, k2, k3, kf, kl⟩ := HB1.out)
      | (go_at_call 18; refine (CL.out _).mono ?_; rintro e w2 ⟨rfl, hb2⟩))
    go_ret
    exact ⟨ret_i64 Hf.out, chain2 hb1 hb2⟩
  · have d3 : decide (n ≤ cnt L A M E now) = false := by simpa using h2
    have hL := few_lt ok hm h2
    have hl0 := ok.l0
    have he0 := ok.e0
    have he1 := ok.e1
    have hM := ok.m1
    have ha0 := ok.a0
    have ha1 := ok.a1
    have hp0 : 0 ≤ (n - L) * E := Int.mul_nonneg (by omega) (by omega)
    have hp1 : (n - L) * E ≤ 1000000000000000 := by
      have := Int.mul_le_mul (show n - L ≤ 1000000 by omega) he1 (by omega) (by omega)
      omega
    have wm := IntWalk.i64_in ((n - L) * E) (by omega)
    have wa := IntWalk.i64_in (A + (n - L) * E) (by omega)
    by_cases h3 : A + (n - L) * E ≤ 1000000000
    · have Hf := Lib.hid (wt_at hh h2 h3)
      clear hh h2
      go_enter Try.func20, Try.ntmps20
      go_wp2_with (first
        | (go_at_call 13; refine (rcheck_ok ok _).mono ?_; rintro e w1 ⟨rfl, hb1⟩; have HB1 := Lib.hid (HBB.out.below hb1); obtain ⟨k0, k1, k2, k3, kf, kl⟩ := HB1.out)
        | (go_at_call 18; refine (CL.out _).mono ?_; rintro e w2 ⟨rfl, hb2⟩; obtain ⟨j0, j1, j2, j3, jf, jl⟩ := HB1.out.below hb2))
      go_ret
      exact ⟨ret_i64 Hf.out, chain2 hb1 hb2⟩
    · have Hf := Lib.hid (wt_never hh h2 h3)
      have h4 : 1000000000 < A + (n - L) * E := by omega
      clear hh h2 h3
      go_enter Try.func20, Try.ntmps20
      go_wp2_with (first
        | (go_at_call 13; refine (rcheck_ok ok _).mono ?_; rintro e w1 ⟨rfl, hb1⟩; have HB1 := Lib.hid (HBB.out.below hb1); obtain ⟨k0, k1, k2, k3, kf, kl⟩ := HB1.out)
        | (go_at_call 18; refine (CL.out _).mono ?_; rintro e w2 ⟨rfl, hb2⟩; obtain ⟨j0, j1, j2, j3, jf, jl⟩ := HB1.out.below hb2))
      go_ret
      exact ⟨ret_i64 Hf.out, chain2 hb1 hb2⟩

theorem rwait_any (L A M E now n : Int) (w : World) :
    Calls Try.prog 20 #[bk L A M E, .int .i64 now, .int .i64 n] w fun e w' => e = .returned (.int .i64 (wt L A M E now n)) ∧ Below w.heap.size w w' := by
  by_cases h : Ok L A M E ∧ 1 ≤ n ∧ n ≤ M ∧ 0 ≤ now ∧ now ≤ 1000000000
  · exact rwait_good L A M E now n h w
  · exact rwait_bad L A M E now n h w
end Go.Proofs.Ytcnbeflfndfndaa
