/- The walk of `Wait`, and `Take` in one. Condition: the numbers are ints. -/
import Derived.Test.YtcnbeflfndfndaaW5
import Derived.Test.YtcnbeflfndfndaaW6
namespace Go.Proofs.Ytcnbeflfndfndaa
open Go.RowKit
set_option linter.unusedVariables false

theorem take_any (L A M E now n : Int) (w : World) :
    Calls Try.prog 15 #[bk L A M E, .int .i64 now, .int .i64 n] w fun e w' => e = .returned (tk L A M E now n) ∧ Below w.heap.size w w' := by
  by_cases h : Ok L A M E ∧ 1 ≤ n ∧ 0 ≤ now ∧ now ≤ 1000000000
  · by_cases h2 : cnt L A M E now < n
    · exact take_few L A M E now n h h2 w
    · by_cases h3 : M - L ≤ arr A E now
      · exact take_full L A M E now n h h2 h3 w
      · exact take_more L A M E now n h h2 h3 w
  · exact take_bad L A M E now n h w

/-- What Wait returns. -/
@[irreducible] def wt (L A M E now n : Int) : Int :=
  if Ok L A M E ∧ 1 ≤ n ∧ n ≤ M ∧ 0 ≤ now ∧ now ≤ 1000000000 then
    (if n ≤ cnt L A M E now then 0 else if A + (n - L) * E ≤ 1000000000 then A + (n - L) * E - now else -1)
  else -1
theorem wt_bad {L A M E now n : Int} (h : ¬ (Ok L A M E ∧ 1 ≤ n ∧ n ≤ M ∧ 0 ≤ now ∧ now ≤ 1000000000)) : -1 = wt L A M E now n := by unfold wt; rw [if_neg h]
theorem wt_now {L A M E now n : Int} (h : Ok L A M E ∧ 1 ≤ n ∧ n ≤ M ∧ 0 ≤ now ∧ now ≤ 1000000000) (h2 : n ≤ cnt L A M E now) : 0 = wt L A M E now n := by unfold wt; rw [if_pos h, if_pos h2]
theorem wt_at {L A M E now n : Int} (h : Ok L A M E ∧ 1 ≤ n ∧ n ≤ M ∧ 0 ≤ now ∧ now ≤ 1000000000) (h2 : ¬ n ≤ cnt L A M E now) (h3 : A + (n - L) * E ≤ 1000000000) : A + (n - L) * E - now = wt L A M E now n := by unfold wt; rw [if_pos h, if_neg h2, if_pos h3]
theorem wt_never {L A M E now n : Int} (h : Ok L A M E ∧ 1 ≤ n ∧ n ≤ M ∧ 0 ≤ now ∧ now ≤ 1000000000) (h2 : ¬ n ≤ cnt L A M E now) (h3 : ¬ A + (n - L) * E ≤ 1000000000) : -1 = wt L A M E now n := by unfold wt; rw [if_pos h, if_neg h2, if_neg h3]
/-- A bucket that has too few tokens had fewer than are wanted when they were counted. -/
theorem few_lt {L A M E now n : Int} (ok : Ok L A M E) (hnM : n ≤ M) (h : ¬ n ≤ cnt L A M E now) : L < n := by
  have hz := arr_nn (A := A) (now := now) ok.e0
  by_cases h3 : M - L ≤ arr A E now
  · rw [← cnt_full h3] at h; omega
  · rw [← cnt_less h3] at h; omega

theorem box_start (w : World) (L A M E : Int) : Held4 (w.alloc (.cells #[.int .i64 L, .int .i64 A, .int .i64 M, .int .i64 E] 23)) w.heap.size L A M E := held_new w L A M E

set_option maxHeartbeats 800000 in
theorem wait_bad (L A M E now n : Int) (h : ¬ (Ok L A M E ∧ 1 ≤ n ∧ n ≤ M ∧ 0 ≤ now ∧ now ≤ 1000000000)) (w : World) :
    Calls Try.prog 19 #[bk L A M E, .int .i64 now, .int .i64 n] w fun e w' => e = .returned (.int .i64 (wt L A M E now n)) ∧ Below w.heap.size w w' := by
  have Hf := Lib.hid (wt_bad h)
  have HBB := Lib.hid (box_start w L A M E)
  by_cases ok : Ok L A M E
  · by_cases hn : n < 1
    · have d1 : decide (n < 1) = true := by simpa using hn
      clear h hn
      go_enter Try.func19, Try.ntmps19
      go_wp2_with (go_at_call 12; refine (check_ok ok _).mono ?_; rintro e w1 ⟨rfl, hb1⟩; obtain ⟨k0, k1, k2, k3, kf, kl⟩ := HBB.out.below hb1)
      go_ret
      exact ⟨ret_i64 Hf.out, Below.trans ((Below.refl _ _).alloc (Nat.le_refl _) _) (hb1.mono (by simp))⟩
    · have d1 : decide (n < 1) = false := by simpa using hn
      by_cases hm : M < n
      · have d2 : decide (M < n) = true := by simpa using hm
        clear h hn hm
        go_enter Try.func19, Try.ntmps19
        go_wp2_with (go_at_call 12; refine (check_ok ok _).mono ?_; rintro e w1 ⟨rfl, hb1⟩; obtain ⟨k0, k1, k2, k3, kf, kl⟩ := HBB.out.below hb1)
        go_ret
        exact ⟨ret_i64 Hf.out, Below.trans ((Below.refl _ _).alloc (Nat.le_refl _) _) (hb1.mono (by simp))⟩
      · have d2 : decide (M < n) = false := by simpa using hm
        have hnt : ¬ (0 ≤ now ∧ now ≤ 1000000000) := fun ht => h ⟨ok, by omega, by omega, ht.1, ht.2⟩
        have C := Lib.hid (istime_no hnt)
        clear h hn hm hnt
        go_enter Try.func19, Try.ntmps19
        go_wp2_with (first
          | (go_at_call 12; refine (check_ok ok _).mono ?_; rintro e w1 ⟨rfl, hb1⟩; obtain ⟨k0, k1, k2, k3, kf, kl⟩ := HBB.out.below hb1)
          | (go_at_call 21; refine (C.out _).mono ?_; rintro e w' ⟨rfl, rfl⟩))
        go_ret
        exact ⟨ret_i64 Hf.out, Below.trans ((Below.refl _ _).alloc (Nat.le_refl _) _) (hb1.mono (by simp))⟩
  · clear h
    go_enter Try.func19, Try.ntmps19
    go_wp2_with (go_at_call 12; refine (check_bad ok _).mono ?_; rintro e w1 ⟨rfl, hb1⟩; obtain ⟨k0, k1, k2, k3, kf, kl⟩ := HBB.out.below hb1)
    go_ret
    exact ⟨ret_i64 Hf.out, Below.trans ((Below.refl _ _).alloc (Nat.le_refl _) _) (hb1.mono (by simp))⟩

theorem chain2 {w w1 w2 : World} {o : Obj} (h1 : Below (w.alloc o).heap.size (w.alloc o) w1) (h2 : Below w1.heap.size w1 w2) : Below w.heap.size w w2 :=
  have s1 := h1.size
  have s4 : (w.alloc o).heap.size = w.heap.size + 1 := by simp
  ((Below.refl w.heap.size w).alloc (Nat.le_refl _) o).trans ((h1.mono (by omega)).trans (h2.mono (by omega)))

set_option maxHeartbeats 800000 in
theorem wait_good (L A M E now n : Int) (h : Ok L A M E ∧ 1 ≤ n ∧ n ≤ M ∧ 0 ≤ now ∧ now ≤ 1000000000) (w : World) :
    Calls Try.prog 19 #[bk L A M E, .int .i64 now, .int .i64 n] w fun e w' => e = .returned (.int .i64 (wt L A M E now n)) ∧ Below w.heap.size w w' := by
  have HBB := Lib.hid (box_start w L A M E)
  have hh := h
  obtain ⟨ok, hn, hm, ht0, ht1⟩ := h
  have d1 : decide (n < 1) = false := by simp; omega
  have d2 : decide (M < n) = false := by simp; omega
  have C := Lib.hid (istime_yes ⟨ht0, ht1⟩)
  by_cases h2 : n ≤ cnt L A M E now
  · have Hf := Lib.hid (wt_now hh h2)
    have d3 : decide (n ≤ cnt L A M E now) = true := by simpa using h2
    clear hh
    go_enter Try.func19, Try.ntmps19
    go_wp2_with (first
      | (go_at_call 12; refine (check_ok ok _).mono ?_; rintro e w1 ⟨rfl, hb1⟩; have HB1 := Lib.hid (HBB.out.below hb1); obtain ⟨k0, k1, k2, k3, kf, kl⟩ := HB1.out)
      | (go_at_call 21; refine (C.out _).mono ?_; rintro e w' ⟨rfl, rfl⟩)
      | (go_at_call 22; refine (count_any _ _ _ _ _ ok (by omega) (by omega) _).mono ?_; rintro e w2 ⟨rfl, hb2⟩))
    go_ret
    exact ⟨ret_i64 Hf.out, chain2 hb1 hb2⟩
  · have d3 : decide (n ≤ cnt L A M E now) = false := by simpa using h2
    have hL := few_lt ok hm h2
    have hl0 := ok.l0
    have he0 := ok.e0
    have he1 := ok.e1
    have hM := ok.m1
    have ha0 := ok.a0
    have ha1 := ok.a1
    have hp0 : 0 ≤ (n - L) * E := Int.mul_nonneg (by omega) (by omega)
    have hp1 : (n - L) * E ≤ 1000000000000000 := by
      have := Int.mul_le_mul (show n - L ≤ 1000000 by omega) he1 (by omega) (by omega)
      omega
    have wm := IntWalk.i64_in ((n - L) * E) (by omega)
    have wa := IntWalk.i64_in (A + (n - L) * E) (by omega)
    by_cases h3 : A + (n - L) * E ≤ 1000000000
    · have Hf := Lib.hid (wt_at hh h2 h3)
      have C2 := Lib.hid (istime_yes (now := A + (n - L) * E) ⟨by omega, h3⟩)
      clear hh h2
      go_enter Try.func19, Try.ntmps19
      go_wp2_with (first
        | (go_at_call 12; refine (check_ok ok _).mono ?_; rintro e w1 ⟨rfl, hb1⟩; have HB1 := Lib.hid (HBB.out.below hb1); obtain ⟨k0, k1, k2, k3, kf, kl⟩ := HB1.out)
        | (go_at_call 21; ((with_reducible refine (C.out _).mono ?_); rintro e w' ⟨rfl, rfl⟩))
        | (go_at_call 21; ((with_reducible refine (C2.out _).mono ?_); rintro e w' ⟨rfl, rfl⟩))
        | (go_at_call 22; refine (count_any _ _ _ _ _ ok (by omega) (by omega) _).mono ?_; rintro e w2 ⟨rfl, hb2⟩; obtain ⟨j0, j1, j2, j3, jf, jl⟩ := HB1.out.below hb2))
      go_ret
      exact ⟨ret_i64 Hf.out, chain2 hb1 hb2⟩
    · have Hf := Lib.hid (wt_never hh h2 h3)
      have C2 := Lib.hid (istime_no (now := A + (n - L) * E) (fun h => h3 h.2))
      clear hh h2
      go_enter Try.func19, Try.ntmps19
      go_wp2_with (first
        | (go_at_call 12; refine (check_ok ok _).mono ?_; rintro e w1 ⟨rfl, hb1⟩; have HB1 := Lib.hid (HBB.out.below hb1); obtain ⟨k0, k1, k2, k3, kf, kl⟩ := HB1.out)
        | (go_at_call 21; ((with_reducible refine (C.out _).mono ?_); rintro e w' ⟨rfl, rfl⟩))
        | (go_at_call 21; ((with_reducible refine (C2.out _).mono ?_); rintro e w' ⟨rfl, rfl⟩))
        | (go_at_call 22; refine (count_any _ _ _ _ _ ok (by omega) (by omega) _).mono ?_; rintro e w2 ⟨rfl, hb2⟩; obtain ⟨j0, j1, j2, j3, jf, jl⟩ := HB1.out.below hb2))
      go_ret
      exact ⟨ret_i64 Hf.out, chain2 hb1 hb2⟩

theorem wait_any (L A M E now n : Int) (w : World) :
    Calls Try.prog 19 #[bk L A M E, .int .i64 now, .int .i64 n] w fun e w' => e = .returned (.int .i64 (wt L A M E now n)) ∧ Below w.heap.size w w' := by
  by_cases h : Ok L A M E ∧ 1 ≤ n ∧ n ≤ M ∧ 0 ≤ now ∧ now ≤ 1000000000
  · exact wait_good L A M E now n h w
  · exact wait_bad L A M E now n h w
end Go.Proofs.Ytcnbeflfndfndaa
