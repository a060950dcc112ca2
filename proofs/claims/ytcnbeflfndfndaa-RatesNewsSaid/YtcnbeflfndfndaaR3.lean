/- The walks of the reference's `Take` and `New`. Condition: the numbers are ints. -/
import Derived.Test.YtcnbeflfndfndaaR2
namespace Go.Proofs.Ytcnbeflfndfndaa
open Go.RowKit
set_option linter.unusedVariables false

set_option maxHeartbeats 1600000 in
theorem rtake_bad (L A M E now n : Int) (h : ¬ (Ok L A M E ∧ 1 ≤ n ∧ 0 ≤ now ∧ now ≤ 1000000000)) (w : World) :
    Calls Try.prog 16 #[bk L A M E, .int .i64 now, .int .i64 n] w fun e w' => e = .returned (tk L A M E now n) ∧ Below w.heap.size w w' := by
  have Hf := Lib.hid (tk_bad h)
  obtain ⟨HB, HR⟩ := take_start w L A M E
  have HBB := Lib.hid HB
  have HRR := Lib.hid HR
  have ht := take_below w (.cells #[.int .i64 L, .int .i64 A, .int .i64 M, .int .i64 E] 23) (.cells #[.int .i64 0, .int .i64 0, .int .i64 0, .int .i64 0] 23)
  have Ht := Lib.hid ht
  clear HB HR ht
  by_cases ok : Ok L A M E
  · by_cases hn : n < 1
    · have d0 : decide (n < 1) = true := by simpa using hn
      clear h hn
      go_enter Try.func16, Try.ntmps16
      go_wp2_with (go_at_call 13; refine (rcheck_ok ok _).mono ?_; rintro e w1 ⟨rfl, hb1⟩; have HB1 := Lib.hid (HBB.out.below hb1); have HR1 := Lib.hid (HRR.out.below hb1); obtain ⟨k0, k1, k2, k3, kf, kl⟩ := HB1.out; obtain ⟨r0, r1, r2, r3, rf, rl⟩ := HR1.out)
      refine bodyPost_ret (v := .tuple #[bk 0 0 0 0, .int .i64 2]) (by simp [results, Try.results16, go_sem, r0, r1, r2, r3]) rfl ⟨Hf.out, ?_⟩
      repeat (refine Below.setCell ?_ (by exact Nat.le_succ _) _)
      exact Below.trans Ht.out (hb1.mono Ht.out.size)
    · have d0 : decide (n < 1) = false := by simpa using hn
      by_cases hs : now < 0
      · have d1 : decide (now < 0) = true := by simpa using hs
        clear h hn hs
        go_enter Try.func16, Try.ntmps16
        go_wp2_with (go_at_call 13; refine (rcheck_ok ok _).mono ?_; rintro e w1 ⟨rfl, hb1⟩; have HB1 := Lib.hid (HBB.out.below hb1); have HR1 := Lib.hid (HRR.out.below hb1); obtain ⟨k0, k1, k2, k3, kf, kl⟩ := HB1.out; obtain ⟨r0, r1, r2, r3, rf, rl⟩ := HR1.out)
        refine bodyPost_ret (v := .tuple #[bk 0 0 0 0, .int .i64 2]) (by simp [results, Try.results16, go_sem, r0, r1, r2, r3]) rfl ⟨Hf.out, ?_⟩
        repeat (refine Below.setCell ?_ (by exact Nat.le_succ _) _)
        exact Below.trans Ht.out (hb1.mono Ht.out.size)
      · have d1 : decide (now < 0) = false := by simpa using hs
        by_cases hu : 1000000000 < now
        · have d2 : decide (1000000000 < now) = true := by simpa using hu
          clear h hn hs hu
          go_enter Try.func16, Try.ntmps16
          go_wp2_with (go_at_call 13; refine (rcheck_ok ok _).mono ?_; rintro e w1 ⟨rfl, hb1⟩; have HB1 := Lib.hid (HBB.out.below hb1); have HR1 := Lib.hid (HRR.out.below hb1); obtain ⟨k0, k1, k2, k3, kf, kl⟩ := HB1.out; obtain ⟨r0, r1, r2, r3, rf, rl⟩ := HR1.out)
          refine bodyPost_ret (v := .tuple #[bk 0 0 0 0, .int .i64 2]) (by simp [results, Try.results16, go_sem, r0, r1, r2, r3]) rfl ⟨Hf.out, ?_⟩
          repeat (refine Below.setCell ?_ (by exact Nat.le_succ _) _)
          exact Below.trans Ht.out (hb1.mono Ht.out.size)
        · have d2 : decide (1000000000 < now) = false := by simpa using hu
          exact absurd ⟨ok, by omega, by omega, by omega⟩ h
  · clear h
    go_enter Try.func16, Try.ntmps16
    go_wp2_with (go_at_call 13; refine (rcheck_bad ok _).mono ?_; rintro e w1 ⟨rfl, hb1⟩; have HB1 := Lib.hid (HBB.out.below hb1); have HR1 := Lib.hid (HRR.out.below hb1); obtain ⟨k0, k1, k2, k3, kf, kl⟩ := HB1.out; obtain ⟨r0, r1, r2, r3, rf, rl⟩ := HR1.out)
    refine bodyPost_ret (v := .tuple #[bk 0 0 0 0, .int .i64 2]) (by simp [results, Try.results16, go_sem, r0, r1, r2, r3]) rfl ⟨Hf.out, ?_⟩
    repeat (refine Below.setCell ?_ (by exact Nat.le_succ _) _)
    exact Below.trans Ht.out (hb1.mono Ht.out.size)

set_option maxHeartbeats 1600000 in
theorem rtake_few (L A M E now n : Int) (h : Ok L A M E ∧ 1 ≤ n ∧ 0 ≤ now ∧ now ≤ 1000000000) (h2 : cnt L A M E now < n) (w : World) :
    Calls Try.prog 16 #[bk L A M E, .int .i64 now, .int .i64 n] w fun e w' => e = .returned (tk L A M E now n) ∧ Below w.heap.size w w' := by
  have Hf := Lib.hid (tk_few h h2)
  obtain ⟨HB, HR⟩ := take_start w L A M E
  have HBB := Lib.hid HB
  have HRR := Lib.hid HR
  have ht := take_below w (.cells #[.int .i64 L, .int .i64 A, .int .i64 M, .int .i64 E] 23) (.cells #[.int .i64 0, .int .i64 0, .int .i64 0, .int .i64 0] 23)
  have Ht := Lib.hid ht
  clear HB HR ht
  obtain ⟨ok, hn, hn0, hn1⟩ := h
  have d1 : decide (n < 1) = false := by simp; omega
  have d4 : decide (now < 0) = false := by simp; omega
  have d5 : decide (1000000000 < now) = false := by simp; omega
  go_enter Try.func16, Try.ntmps16
  go_wp2_with (first
    | (go_at_call 13; refine (rcheck_ok ok _).mono ?_; rintro e w1 ⟨rfl, hb1⟩; have HB1 := Lib.hid (HBB.out.below hb1); have HR1 := Lib.hid (HRR.out.below hb1); obtain ⟨k0, k1, k2, k3, kf, kl⟩ := HB1.out; obtain ⟨r0, r1, r2, r3, rf, rl⟩ := HR1.out)
    | (go_at_call 25; refine (counted_any _ _ _ _ _ ok (by omega) (by omega) _).mono ?_; rintro e w2 ⟨rfl, hb2⟩; have HR2 := Lib.hid ((HR1.out.below hb2).alloc (.cells #[.int .i64 (cnt L A M E now), .int .i64 (tat L A M E now), .int .i64 M, .int .i64 E] 23)); clear r0 r1 r2 r3 rf rl; obtain ⟨r0, r1, r2, r3, rf, rl⟩ := HR2.out))
  refine bodyPost_ret (v := .tuple #[bk 0 0 0 0, .int .i64 25]) (by simp [results, Try.results16, go_sem, r0, r1, r2, r3]) rfl ⟨Hf.out, ?_⟩
  repeat (refine Below.setCell ?_ (by exact Nat.le_succ _) _)
  have hch := Below.trans Ht.out ((hb1.mono Ht.out.size).trans (hb2.mono (Nat.le_trans Ht.out.size hb1.size)))
  exact hch.alloc hch.size _

set_option maxHeartbeats 1600000 in
theorem rtake_yes (L A M E now n : Int) (h : Ok L A M E ∧ 1 ≤ n ∧ 0 ≤ now ∧ now ≤ 1000000000) (h2 : ¬ cnt L A M E now < n) (w : World) :
    Calls Try.prog 16 #[bk L A M E, .int .i64 now, .int .i64 n] w fun e w' => e = .returned (tk L A M E now n) ∧ Below w.heap.size w w' := by
  have Hf := Lib.hid (tk_yes h h2)
  obtain ⟨HB, HR⟩ := take_start w L A M E
  have HBB := Lib.hid HB
  have HRR := Lib.hid HR
  have ht := take_below w (.cells #[.int .i64 L, .int .i64 A, .int .i64 M, .int .i64 E] 23) (.cells #[.int .i64 0, .int .i64 0, .int .i64 0, .int .i64 0] 23)
  have Ht := Lib.hid ht
  clear HB HR ht
  obtain ⟨ok, hn, hn0, hn1⟩ := h
  have hcb := cnt_bd (now := now) ok
  have hM := ok.m1
  have d1 : decide (n < 1) = false := by simp; omega
  have d4 : decide (now < 0) = false := by simp; omega
  have d5 : decide (1000000000 < now) = false := by simp; omega
  go_enter Try.func16, Try.ntmps16
  go_wp2_with (first
    | (go_at_call 13; refine (rcheck_ok ok _).mono ?_; rintro e w1 ⟨rfl, hb1⟩; have HB1 := Lib.hid (HBB.out.below hb1); have HR1 := Lib.hid (HRR.out.below hb1); obtain ⟨k0, k1, k2, k3, kf, kl⟩ := HB1.out; obtain ⟨r0, r1, r2, r3, rf, rl⟩ := HR1.out)
    | (go_at_call 25; refine (counted_any _ _ _ _ _ ok (by omega) (by omega) _).mono ?_; rintro e w2 ⟨rfl, hb2⟩; have HR2 := Lib.hid (HR1.out.below hb2); clear r0 r1 r2 r3 rf rl; obtain ⟨r0, r1, r2, r3, rf, rl⟩ := HR2.out; have q0 : w2.heap.size ≠ w.heap.size + 1 := (by omega); have q1 : w.heap.size + 1 ≠ w2.heap.size := (by omega)))
  refine bodyPost_ret (v := .tuple #[bk (cnt L A M E now - n) (tat L A M E now) M E, .int .i64 0]) (by simp [results, Try.results16, go_sem, r0, r1, r2, r3, rl]) rfl ⟨Hf.out, ?_⟩
  have hch := Below.trans Ht.out ((hb1.mono Ht.out.size).trans (hb2.mono (Nat.le_trans Ht.out.size hb1.size)))
  refine Below.alloc ?_ (by simp; omega) _
  repeat (refine Below.setCell ?_ (by exact Nat.le_succ _) _)
  exact hch

theorem rtake_any (L A M E now n : Int) (w : World) :
    Calls Try.prog 16 #[bk L A M E, .int .i64 now, .int .i64 n] w fun e w' => e = .returned (tk L A M E now n) ∧ Below w.heap.size w w' := by
  by_cases h : Ok L A M E ∧ 1 ≤ n ∧ 0 ≤ now ∧ now ≤ 1000000000
  · by_cases h2 : cnt L A M E now < n
    · exact rtake_few L A M E now n h h2 w
    · exact rtake_yes L A M E now n h h2 w
  · exact rtake_bad L A M E now n h w

set_option maxHeartbeats 400000 in
theorem rnew_any (m e : Int) (w : World) :
    Calls Try.prog 11 #[.int .i64 m, .int .i64 e] w fun r w' => r = .returned (nw m e) ∧ Below w.heap.size w w' := by
  have HRR := Lib.hid ((held_new w 0 0 0 0).alloc (.cells #[.int .i64 m, .int .i64 0, .int .i64 m, .int .i64 e] 23))
  have HCC := Lib.hid (take_start w 0 0 0 0)
  have Ht := Lib.hid (take_below w (.cells #[.int .i64 0, .int .i64 0, .int .i64 0, .int .i64 0] 23) (.cells #[.int .i64 m, .int .i64 0, .int .i64 m, .int .i64 e] 23))
  by_cases ok : Ok m 0 m e
  · have Hf := Lib.hid (nw_yes ok)
    go_enter Try.func11, Try.ntmps11
    go_wp2_with (go_at_call 13; refine (rcheck_ok ok _).mono ?_; rintro r w1 ⟨rfl, hb1⟩; obtain ⟨hc1, hf1⟩ := bcell hb1; have hz1 : w.heap.size + 1 < w1.heap.size := (by have := hb1.size; simp at this; omega); have HR1 := Lib.hid (HRR.out.below hb1); obtain ⟨r0, r1, r2, r3, rf, rl⟩ := HR1.out)
    refine bodyPost_ret (v := .tuple #[bk m 0 m e, .int .i64 0]) (by simp [results, Try.results11, go_sem, r0, r1, r2, r3]) rfl ⟨Hf.out, ?_⟩
    repeat (refine Below.setCell ?_ (by exact Nat.le_refl _) _)
    exact Below.trans Ht.out (hb1.mono Ht.out.size)
  · have Hf := Lib.hid (nw_no ok)
    go_enter Try.func11, Try.ntmps11
    go_wp2_with (go_at_call 13; refine (rcheck_bad ok _).mono ?_; rintro r w1 ⟨rfl, hb1⟩; obtain ⟨hc1, hf1⟩ := bcell hb1; have hz1 : w.heap.size + 1 < w1.heap.size := (by have := hb1.size; simp at this; omega); have HR1 := Lib.hid (HRR.out.below hb1); obtain ⟨r0, r1, r2, r3, rf, rl⟩ := HR1.out)
    refine bodyPost_ret (v := .tuple #[bk 0 0 0 0, .int .i64 2]) (by simp [results, Try.results11, go_sem, r0, r1, r2, r3]) rfl ⟨Hf.out, ?_⟩
    repeat (refine Below.setCell ?_ (by exact Nat.le_refl _) _)
    exact Below.trans Ht.out (hb1.mono Ht.out.size)
end Go.Proofs.Ytcnbeflfndfndaa
