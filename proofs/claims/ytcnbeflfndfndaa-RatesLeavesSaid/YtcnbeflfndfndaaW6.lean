/- The walk of `Take` where the bucket is not full. Condition: the numbers are ints. -/
import Derived.Test.YtcnbeflfndfndaaW4
namespace Go.Proofs.Ytcnbeflfndfndaa
open Go.RowKit
set_option linter.unusedVariables false

set_option maxHeartbeats 1600000 in
theorem take_more (L A M E now n : Int) (h : Ok L A M E ∧ 1 ≤ n ∧ 0 ≤ now ∧ now ≤ 1000000000) (h2 : ¬ cnt L A M E now < n) (h3 : ¬ M - L ≤ arr A E now) (w : World) :
    Calls Try.prog 15 #[bk L A M E, .int .i64 now, .int .i64 n] w fun e w' => e = .returned (tk L A M E now n) ∧ Below w.heap.size w w' := by
  have hf := tk_yes h h2
  obtain ⟨HB, HR⟩ := take_start w L A M E
  have HBB := Lib.hid HB
  have HRR := Lib.hid HR
  have ht := take_below w (.cells #[.int .i64 L, .int .i64 A, .int .i64 M, .int .i64 E] 23) (.cells #[.int .i64 0, .int .i64 0, .int .i64 0, .int .i64 0] 23)
  have Ht := Lib.hid ht
  clear HB HR ht
  obtain ⟨ok, hn, hn0, hn1⟩ := h
  have hcb := cnt_bd (now := now) ok
  have hM := ok.m1
  have hL := ok.l0
  have hE0 := ok.e0
  have hE1 := ok.e1
  have hA0 := ok.a0
  have hA1 := ok.a1
  have ha0 := arr_nn (A := A) (now := now) ok.e0
  have ha1 : arr A E now ≤ 1000000 := by omega
  have hm0 : 0 ≤ arr A E now * E := Int.mul_nonneg ha0 (by omega)
  have hm1 : arr A E now * E ≤ 1000000000000000 := by
    have := Int.mul_le_mul ha1 hE1 (by omega) (by omega)
    omega
  have wm := IntWalk.i64_in (arr A E now * E) (by omega)
  have wa := IntWalk.i64_in (A + arr A E now * E) (by omega)
  have d1 : decide (n < 1) = false := by simpa using hn
  have C := Lib.hid (istime_yes ⟨hn0, hn1⟩)
  have c1 : ∀ w, Calls Try.prog 23 #[bk L A M E, .int .i64 now] w fun e w' => e = .returned (.bool false) ∧ Below w.heap.size w w' := fun w => (full_any L A M E now ok (by omega) (by omega) w).mono fun e w' ⟨he, hb⟩ => ⟨by rw [he, decide_eq_false h3], hb⟩
  have C1 := Lib.hid c1
  clear c1
  rw [tat_no h3] at hf
  have Hf := Lib.hid hf
  have Wm := Lib.hid wm
  have Wa := Lib.hid wa
  clear hf h3 wm wa hm0 hm1
  go_enter Try.func15, Try.ntmps15
  go_wp2_with (first
    | (go_at_call 12; refine (check_ok ok _).mono ?_; rintro e w1 ⟨rfl, hb1⟩; have HB1 := Lib.hid (HBB.out.below hb1); have HR1 := Lib.hid (HRR.out.below hb1); obtain ⟨k0, k1, k2, k3, kf, kl⟩ := HB1.out)
    | (go_at_call 21; refine (C.out _).mono ?_; rintro e w' ⟨rfl, rfl⟩)
    | (go_at_call 22; refine (count_any _ _ _ _ _ ok (by omega) (by omega) _).mono ?_; rintro e w2 ⟨rfl, hb2⟩; have HB2 := Lib.hid (HB1.out.below hb2); have HR2 := Lib.hid (HR1.out.below hb2); obtain ⟨j0, j1, j2, j3, jf, jl⟩ := HB2.out; have q0 : w2.heap.size ≠ w.heap.size := (by omega); have q1 : w2.heap.size ≠ w.heap.size + 1 := (by have := HR2.out.lt; omega); have q2 : w.heap.size ≠ w2.heap.size := (by omega); have q3 : w.heap.size + 1 ≠ w2.heap.size := (by omega))
    | (go_at_call 23; refine (C1.out _).mono ?_; rintro e w3 ⟨rfl, hb3⟩; have HB3 := Lib.hid ((HB2.out.alloc _).below hb3); have HR3 := Lib.hid ((HR2.out.alloc _).below hb3); have HN3 := Lib.hid ((held_new w2 _ _ _ _).below hb3); obtain ⟨i0, i1, i2, i3, ifz, il⟩ := HB3.out))
  clear k0 k1 k2 k3 kf kl j0 j1 j2 j3 jf
  have Hb1 := Lib.hid hb1
  have Hb2 := Lib.hid hb2
  have Hb3 := Lib.hid hb3
  clear hb1 hb2 hb3
  have wm := Wm.out
  have wa := Wa.out
  go_region_held3 (fun w' => w'.cell? ⟨w.heap.size, 0, none⟩ = some (.int .i64 L) ∧ w'.cell? ⟨w.heap.size, 1, none⟩ = some (.int .i64 A) ∧ w'.cell? ⟨w.heap.size, 2, none⟩ = some (.int .i64 M) ∧ w'.cell? ⟨w.heap.size, 3, none⟩ = some (.int .i64 E)) (go_keep)
    (first | (go_at_call 24; refine (arrived_any _ _ _ _ _ ok (by omega) (by omega) _).mono ?_; rintro e w4 ⟨rfl, hb4⟩; have hb5 : Below w3.heap.size w3 w4 := ⟨hb4.os, hb4.tape, hb4.output, hb4.size, hb4.block⟩; obtain ⟨i0, i1, i2, i3, ifz, il⟩ := HB3.out.below hb5; obtain ⟨r0, r1, r2, r3, rf, rl⟩ := HR3.out.below hb5; obtain ⟨n0, n1, n2, n3, nf, nl⟩ := HN3.out.below hb5))
  all_goals go_wp2
  refine bodyPost_ret (v := .tuple #[bk (cnt L A M E now - n) (A + arr A E now * E) M E, .int .i64 0]) (by simp [results, Try.results15, go_sem, r0, r1, r2, r3]) rfl ⟨Hf.out, ?_⟩
  repeat (refine Below.setCell ?_ (by dsimp only; omega) _)
  have hch := chain3 Ht.out Hb1.out Hb2.out Hb3.out
  exact hch.trans (hb5.mono hch.size)
end Go.Proofs.Ytcnbeflfndfndaa
