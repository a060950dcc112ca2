/- The walk of `Take` where the bucket is full. Condition: the numbers are ints. -/
import Derived.Test.YtcnbeflfndfndaaW4
namespace Go.Proofs.Ytcnbeflfndfndaa
open Go.RowKit
set_option linter.unusedVariables false

set_option maxHeartbeats 1600000 in
theorem take_full (L A M E now n : Int) (h : Ok L A M E ∧ 1 ≤ n ∧ 0 ≤ now ∧ now ≤ 1000000000) (h2 : ¬ cnt L A M E now < n) (h3 : M - L ≤ arr A E now) (w : World) :
    Calls Try.prog 15 #[bk L A M E, .int .i64 now, .int .i64 n] w fun e w' => e = .returned (tk L A M E now n) ∧ Below w.heap.size w w' := by
  have hf := tk_yes h h2
  obtain ⟨HB, HR⟩ := take_start w L A M E
  have HBB := Lib.hid HB
  have HRR := Lib.hid HR
  have ht := take_below w (.cells #[.int .i64 L, .int .i64 A, .int .i64 M, .int .i64 E] 23) (.cells #[.int .i64 0, .int .i64 0, .int .i64 0, .int .i64 0] 23)
  have Ht := Lib.hid ht
  clear HB HR ht
  obtain ⟨ok, hn, hn0, hn1⟩ := h
  have hcb := cnt_bd (now := now) ok
  have hM := ok.m1
  have d1 : decide (n < 1) = false := by simpa using hn
  have C := Lib.hid (istime_yes ⟨hn0, hn1⟩)
  have c1 : ∀ w, Calls Try.prog 23 #[bk L A M E, .int .i64 now] w fun e w' => e = .returned (.bool true) ∧ Below w.heap.size w w' := fun w => (full_any L A M E now ok (by omega) (by omega) w).mono fun e w' ⟨he, hb⟩ => ⟨by rw [he, decide_eq_true h3], hb⟩
  have C1 := Lib.hid c1
  clear c1
  by_cases hA : A ≤ now
  · rw [tat_hi h3 hA] at hf
    have Hf := Lib.hid hf
    clear hf h3
    go_enter Try.func15, Try.ntmps15
    go_wp2_with (first
      | (go_at_call 12; refine (check_ok ok _).mono ?_; rintro e w1 ⟨rfl, hb1⟩; have HB1 := Lib.hid (HBB.out.below hb1); have HR1 := Lib.hid (HRR.out.below hb1); obtain ⟨k0, k1, k2, k3, kf, kl⟩ := HB1.out)
      | (go_at_call 21; refine (C.out _).mono ?_; rintro e w' ⟨rfl, rfl⟩)
      | (go_at_call 22; refine (count_any _ _ _ _ _ ok (by omega) (by omega) _).mono ?_; rintro e w2 ⟨rfl, hb2⟩; have HB2 := Lib.hid (HB1.out.below hb2); have HR2 := Lib.hid (HR1.out.below hb2); obtain ⟨j0, j1, j2, j3, jf, jl⟩ := HB2.out; have q0 : w2.heap.size ≠ w.heap.size := (by omega); have q1 : w2.heap.size ≠ w.heap.size + 1 := (by have := HR2.out.lt; omega); have q2 : w.heap.size ≠ w2.heap.size := (by omega); have q3 : w.heap.size + 1 ≠ w2.heap.size := (by omega))
      | (go_at_call 23; refine (C1.out _).mono ?_; rintro e w3 ⟨rfl, hb3⟩; have HB3 := Lib.hid ((HB2.out.alloc _).below hb3); have HR3 := Lib.hid ((HR2.out.alloc _).below hb3); have HN3 := Lib.hid ((held_new w2 _ _ _ _).below hb3); obtain ⟨i0, i1, i2, i3, ifz, il⟩ := HB3.out; obtain ⟨r0, r1, r2, r3, rf, rl⟩ := HR3.out; obtain ⟨n0, n1, n2, n3, nf, nl⟩ := HN3.out))
    refine bodyPost_ret (v := .tuple #[bk (cnt L A M E now - n) now M E, .int .i64 0]) (by simp [results, Try.results15, go_sem, r0, r1, r2, r3]) rfl ⟨Hf.out, ?_⟩
    have hle1 : w.heap.size ≤ w2.heap.size := Nat.le_of_lt jl
    repeat (refine Below.setCell ?_ (by first | exact Nat.le_succ _ | exact hle1) _)
    exact chain3 Ht.out hb1 hb2 hb3
  · have hA : now < A := by omega
    rw [tat_lo h3 hA] at hf
    have Hf := Lib.hid hf
    clear hf h3
    go_enter Try.func15, Try.ntmps15
    go_wp2_with (first
      | (go_at_call 12; refine (check_ok ok _).mono ?_; rintro e w1 ⟨rfl, hb1⟩; have HB1 := Lib.hid (HBB.out.below hb1); have HR1 := Lib.hid (HRR.out.below hb1); obtain ⟨k0, k1, k2, k3, kf, kl⟩ := HB1.out)
      | (go_at_call 21; refine (C.out _).mono ?_; rintro e w' ⟨rfl, rfl⟩)
      | (go_at_call 22; refine (count_any _ _ _ _ _ ok (by omega) (by omega) _).mono ?_; rintro e w2 ⟨rfl, hb2⟩; have HB2 := Lib.hid (HB1.out.below hb2); have HR2 := Lib.hid (HR1.out.below hb2); obtain ⟨j0, j1, j2, j3, jf, jl⟩ := HB2.out; have q0 : w2.heap.size ≠ w.heap.size := (by omega); have q1 : w2.heap.size ≠ w.heap.size + 1 := (by have := HR2.out.lt; omega); have q2 : w.heap.size ≠ w2.heap.size := (by omega); have q3 : w.heap.size + 1 ≠ w2.heap.size := (by omega))
      | (go_at_call 23; refine (C1.out _).mono ?_; rintro e w3 ⟨rfl, hb3⟩; have HB3 := Lib.hid ((HB2.out.alloc _).below hb3); have HR3 := Lib.hid ((HR2.out.alloc _).below hb3); have HN3 := Lib.hid ((held_new w2 _ _ _ _).below hb3); obtain ⟨i0, i1, i2, i3, ifz, il⟩ := HB3.out; obtain ⟨r0, r1, r2, r3, rf, rl⟩ := HR3.out; obtain ⟨n0, n1, n2, n3, nf, nl⟩ := HN3.out))
    refine bodyPost_ret (v := .tuple #[bk (cnt L A M E now - n) A M E, .int .i64 0]) (by simp [results, Try.results15, go_sem, r0, r1, r2, r3]) rfl ⟨Hf.out, ?_⟩
    have hle1 : w.heap.size ≤ w2.heap.size := Nat.le_of_lt jl
    repeat (refine Below.setCell ?_ (by first | exact Nat.le_succ _ | exact hle1) _)
    exact chain3 Ht.out hb1 hb2 hb3

end Go.Proofs.Ytcnbeflfndfndaa
