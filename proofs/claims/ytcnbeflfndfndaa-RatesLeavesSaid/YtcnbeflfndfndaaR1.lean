/- The walks of the reference's `counted` and `Left`. Condition of `counted`: the bucket is right; of both: the time is an int. -/
import Derived.Test.YtcnbeflfndfndaaW7
namespace Go.Proofs.Ytcnbeflfndfndaa
open Go.RowKit
set_option linter.unusedVariables false

theorem cnt_before {L A M E now : Int} (ok : Ok L A M E) (h : now ≤ A) : cnt L A M E now = L ∧ tat L A M E now = A := by
  have ha : arr A E now = 0 := by
    by_cases e : A ≤ now
    · have e2 : now = A := by omega
      rw [← arr_hi e, e2, Int.sub_self]; simp
    · exact arr_lo (by omega)
  have h1 := ok.l1
  by_cases hf : M - L ≤ arr A E now
  · refine ⟨by rw [← cnt_full hf]; omega, ?_⟩
    by_cases e : A ≤ now
    · rw [tat_hi hf e]; omega
    · rw [tat_lo hf (by omega)]
  · refine ⟨by rw [← cnt_less hf]; omega, ?_⟩
    rw [tat_no hf, ha]; omega

theorem box2 (w : World) (L A M E : Int) : Below w.heap.size w ((w.alloc (.cells #[.int .i64 L, .int .i64 A, .int .i64 M, .int .i64 E] 23)).alloc (.cells #[.int .i64 0, .int .i64 0, .int .i64 0, .int .i64 0] 23)) := take_below w _ _

set_option maxHeartbeats 1600000 in
theorem counted_any (L A M E now : Int) (ok : Ok L A M E) (hn0 : -9223372036854775808 ≤ now) (hn1 : now ≤ 9223372036854775807) (w : World) :
    Calls Try.prog 25 #[bk L A M E, .int .i64 now] w fun e w' => e = .returned (bk (cnt L A M E now) (tat L A M E now) M E) ∧ Below w.heap.size w w' := by
  have ok2 := ok
  obtain ⟨m0, m1, e0, e1, l0, l1, a0, a1⟩ := ok
  by_cases h : now ≤ A
  · obtain ⟨hc, ht⟩ := cnt_before ok2 h
    rw [hc, ht]
    clear hc ht
    by_cases hm : M ≤ L
    · obtain rfl : M = L := by omega
      go_enter Try.func25, Try.ntmps25
      go_wp2
      refine bodyPost_ret (v := bk M A M E) (by simp [results, Try.results25, go_sem]) rfl ⟨rfl, ?_⟩
      exact take_below w _ _
    · go_enter Try.func25, Try.ntmps25
      go_wp2
      refine bodyPost_ret (v := bk L A M E) (by simp [results, Try.results25, go_sem]) rfl ⟨rfl, ?_⟩
      exact take_below w _ _
  · have hA : A ≤ now := by omega
    have ha := arr_hi (E := E) hA
    have hz := arr_nn (A := A) (now := now) e0
    have hsub : IntKind.i64.wrap (now - A) = now - A := IntWalk.i64_in _ (by omega)
    by_cases hf : M - L ≤ arr A E now
    · rw [← cnt_full hf, tat_hi hf hA]
      have d1 : decide (M - L ≤ (now - A) / E) = true := by rw [ha]; simpa using hf
      have Ha := Lib.hid ha
      have h3 : M - L ≤ (now - A) / E := by rw [ha]; exact hf
      clear ha hf
      go_enter Try.func25, Try.ntmps25
      go_wp2
      refine bodyPost_ret (v := bk M now M E) (by simp [results, Try.results25, go_sem]) rfl ⟨rfl, ?_⟩
      exact take_below w _ _
    · have hm0 : 0 ≤ arr A E now * E := Int.mul_nonneg hz (by omega)
      have hm1 : arr A E now * E ≤ 1000000000000000 := by
        have := Int.mul_le_mul (show arr A E now ≤ 1000000 by omega) e1 (by omega) (by omega)
        omega
      rw [← cnt_less hf, tat_no hf]
      rw [← ha] at hm0 hm1 hz hf ⊢
      have wm := IntWalk.i64_in ((now - A) / E * E) (by omega)
      have wa := IntWalk.i64_in (A + (now - A) / E * E) (by omega)
      have h3 : ¬ M - L ≤ (now - A) / E := hf
      have h4 : (now - A) / E < M - L := by omega
      clear ha hf
      go_enter Try.func25, Try.ntmps25
      go_wp2
      refine bodyPost_ret (v := bk (L + (now - A) / E) (A + (now - A) / E * E) M E) (by simp [results, Try.results25, go_sem]) rfl ⟨rfl, ?_⟩
      exact take_below w _ _

set_option maxHeartbeats 400000 in
theorem rleft_any (L A M E now : Int) (hn0 : -9223372036854775808 ≤ now) (hn1 : now ≤ 9223372036854775807) (w : World) :
    Calls Try.prog 18 #[bk L A M E, .int .i64 now] w fun e w' => e = .returned (.int .i64 (lef L A M E now)) ∧ Below w.heap.size w w' := by
  have HBB := Lib.hid (box_start w L A M E)
  have hfd : ∀ (x0 x1 x2 x3 : Int) (w : World), (Instr.field 23 (bk x0 x1 x2 x3) 0).run Try.prog w = .ok (.int .i64 x0) w := fun _ _ _ _ _ => by kernel_rfl
  by_cases ok : Ok L A M E
  · have Hf := Lib.hid (lef_yes (now := now) ok)
    go_enter Try.func18, Try.ntmps18
    go_wp2_with (first
      | (go_at_call 13; refine (rcheck_ok ok _).mono ?_; rintro e w1 ⟨rfl, hb1⟩; obtain ⟨k0, k1, k2, k3, kf, kl⟩ := HBB.out.below hb1)
      | (go_at_call 25; refine (counted_any _ _ _ _ _ ok hn0 hn1 _).mono ?_; rintro e w2 ⟨rfl, hb2⟩))
    go_ret
    exact ⟨ret_i64 Hf.out, chain2 hb1 hb2⟩
  · have Hf := Lib.hid (lef_no (now := now) ok)
    go_enter Try.func18, Try.ntmps18
    go_wp2_with (go_at_call 13; refine (rcheck_bad ok _).mono ?_; rintro e w1 ⟨rfl, hb1⟩)
    go_ret
    exact ⟨ret_i64 Hf.out, Below.trans ((Below.refl _ _).alloc (Nat.le_refl _) _) (hb1.mono (by simp))⟩
end Go.Proofs.Ytcnbeflfndfndaa
