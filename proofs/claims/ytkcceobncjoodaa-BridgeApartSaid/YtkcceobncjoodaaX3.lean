/- Identities of other networks: the walks of BridgeRestores, BridgeApart. -/
import Derived.Test.YtkcceobncjoodaaX2
import Derived.Test.YtkcceobncjoodaaY1
import Derived.Deep.RegionHeld3
namespace Go.Proofs.Ytkcceobncjoodaa
open Go.RowKit
set_option linter.unusedVariables false
set_option linter.unusedSimpArgs false

theorem txt_eq {a b : ByteArray} (h : a.toList = b.toList) : a = b := by
  have h2 := str_beq a b
  rw [h, beq_self_eq_true] at h2
  simpa using h2.symm
set_option maxRecDepth 100000 in
set_option maxHeartbeats 8000000 in
theorem apart_walk (a b c a2 b2 c2 : ByteArray) (w : World) : Calls Try.prog 7 #[.agg #[.string a, .string b, .string c], .agg #[.string a2, .string b2, .string c2]] w fun e w' => e = .returned (.bool true) ∧ Below w.heap.size w w' := by
  have B0 := Lib.hid (((Below.refl w.heap.size w).alloc (Nat.le_refl _) (.cells #[.string a, .string b, .string c] 23)).alloc (by simp) (.cells #[.string a2, .string b2, .string c2] 23))
  have X0 := Lib.hid (show Blk ((w.alloc (.cells #[.string a, .string b, .string c] 23)).alloc (.cells #[.string a2, .string b2, .string c2] 23)) w.heap.size [.string a, .string b, .string c] 23 from (blk_new w [.string a, .string b, .string c] 23).alloc _)
  have Y0 := Lib.hid (blk_new2 w (.cells #[.string a, .string b, .string c] 23) [.string a2, .string b2, .string c2] 23)
  have G9 := Lib.hid (fun v => great9 a b c v)
  have H9 := Lib.hid (fun v => great9 a2 b2 c2 v)
  by_cases hg : sh1 ⟨a, b, c⟩
  · rw [decide_eq_true hg] at G9
    by_cases hg2 : sh1 ⟨a2, b2, c2⟩
    · rw [decide_eq_true hg2] at H9
      have C1 := Lib.hid (fun v => user10 a b c (Nat.le_trans hg.1 (by decide)) (Nat.le_trans hg.2.1 (by decide)) (Nat.le_trans hg.2.2 (by decide)) v)
      have C2 := Lib.hid (fun v => user10 a2 b2 c2 (Nat.le_trans hg2.1 (by decide)) (Nat.le_trans hg2.2.1 (by decide)) (Nat.le_trans hg2.2.2 (by decide)) v)
      unfold UsP at C1 C2
      by_cases g0 : usE a b c = 0
      · rw [g0] at C1
        by_cases g1 : usE a2 b2 c2 = 0
        · rw [g1] at C2
          by_cases heq : a = a2 ∧ b = b2 ∧ c = c2
          · obtain ⟨rfl, rfl, rfl⟩ := heq
            generalize usS a b c = U at C1 C2
            clear hg hg2 g0 g1
            go_enter Try.func7, Try.ntmps7
            go_wp2_with (first
              | (go_at_call 12; (with_reducible refine (live12 _).mono ?_); rintro e w5 ⟨rfl, hb⟩; have B5 := Lib.hid (B4.out.trans (hb.mono B4.out.size)); clear hb)
              | (go_at_call 10; (with_reducible refine (C2.out _).mono ?_); rintro e w4 ⟨rfl, hb⟩; have B4 := Lib.hid (B3.out.trans (hb.mono B3.out.size)); have X4 := Lib.hid (X3.out.below hb); have Y4 := Lib.hid (Y3.out.below hb); have r0 := X4.out.cell (i := 0) rfl; have s0 := Y4.out.cell (i := 0) rfl; have r1 := X4.out.cell (i := 1) rfl; have s1 := Y4.out.cell (i := 1) rfl; have r2 := X4.out.cell (i := 2) rfl; have s2 := Y4.out.cell (i := 2) rfl; clear p0 p1 p2 q0 q1 q2; clear hb)
              | (go_at_call 10; (with_reducible refine (C1.out _).mono ?_); rintro e w3 ⟨rfl, hb⟩; have B3 := Lib.hid (B2.out.trans (hb.mono B2.out.size)); have X3 := Lib.hid (X2.out.below hb); have Y3 := Lib.hid (Y2.out.below hb); have p0 := X3.out.cell (i := 0) rfl; have q0 := Y3.out.cell (i := 0) rfl; have p1 := X3.out.cell (i := 1) rfl; have q1 := Y3.out.cell (i := 1) rfl; have p2 := X3.out.cell (i := 2) rfl; have q2 := Y3.out.cell (i := 2) rfl; clear r0 r1 r2 s0 s1 s2; clear hb)
              | (go_at_call 9; (with_reducible refine (H9.out _).mono ?_); rintro e w2 ⟨rfl, hb⟩; have B2 := Lib.hid (B1.out.trans (hb.mono B1.out.size)); have X2 := Lib.hid (X1.out.below hb); have Y2 := Lib.hid (Y1.out.below hb); have r0 := X2.out.cell (i := 0) rfl; have s0 := Y2.out.cell (i := 0) rfl; have r1 := X2.out.cell (i := 1) rfl; have s1 := Y2.out.cell (i := 1) rfl; have r2 := X2.out.cell (i := 2) rfl; have s2 := Y2.out.cell (i := 2) rfl; clear p0 p1 p2 q0 q1 q2; clear hb)
              | (go_at_call 9; (with_reducible refine (G9.out _).mono ?_); rintro e w1 ⟨rfl, hb⟩; have B1 := Lib.hid (B0.out.trans (hb.mono B0.out.size)); have X1 := Lib.hid (X0.out.below hb); have Y1 := Lib.hid (Y0.out.below hb); have p0 := X1.out.cell (i := 0) rfl; have q0 := Y1.out.cell (i := 0) rfl; have p1 := X1.out.cell (i := 1) rfl; have q1 := Y1.out.cell (i := 1) rfl; have p2 := X1.out.cell (i := 2) rfl; have q2 := Y1.out.cell (i := 2) rfl; clear hb))
            go_ret
            exact ⟨rfl, B5.out⟩
          · have hne : ((usS a b c).toList == (usS a2 b2 c2).toList) = false := by
              rw [str_beq, decide_eq_false]
              exact fun e => heq (us_inj g0 g1 e)
            generalize usS a b c = U at C1 hne
            generalize usS a2 b2 c2 = U2 at C2 hne
            clear hg hg2 g0 g1
            go_enter Try.func7, Try.ntmps7
            go_wp2_with (first
              | (go_at_call 12; (with_reducible refine (live12 _).mono ?_); rintro e w5 ⟨rfl, hb⟩; have B5 := Lib.hid (B4.out.trans (hb.mono B4.out.size)); clear hb)
              | (go_at_call 10; (with_reducible refine (C2.out _).mono ?_); rintro e w4 ⟨rfl, hb⟩; have B4 := Lib.hid (B3.out.trans (hb.mono B3.out.size)); have X4 := Lib.hid (X3.out.below hb); have Y4 := Lib.hid (Y3.out.below hb); have r0 := X4.out.cell (i := 0) rfl; have s0 := Y4.out.cell (i := 0) rfl; have r1 := X4.out.cell (i := 1) rfl; have s1 := Y4.out.cell (i := 1) rfl; have r2 := X4.out.cell (i := 2) rfl; have s2 := Y4.out.cell (i := 2) rfl; clear p0 p1 p2 q0 q1 q2; clear hb)
              | (go_at_call 10; (with_reducible refine (C1.out _).mono ?_); rintro e w3 ⟨rfl, hb⟩; have B3 := Lib.hid (B2.out.trans (hb.mono B2.out.size)); have X3 := Lib.hid (X2.out.below hb); have Y3 := Lib.hid (Y2.out.below hb); have p0 := X3.out.cell (i := 0) rfl; have q0 := Y3.out.cell (i := 0) rfl; have p1 := X3.out.cell (i := 1) rfl; have q1 := Y3.out.cell (i := 1) rfl; have p2 := X3.out.cell (i := 2) rfl; have q2 := Y3.out.cell (i := 2) rfl; clear r0 r1 r2 s0 s1 s2; clear hb)
              | (go_at_call 9; (with_reducible refine (H9.out _).mono ?_); rintro e w2 ⟨rfl, hb⟩; have B2 := Lib.hid (B1.out.trans (hb.mono B1.out.size)); have X2 := Lib.hid (X1.out.below hb); have Y2 := Lib.hid (Y1.out.below hb); have r0 := X2.out.cell (i := 0) rfl; have s0 := Y2.out.cell (i := 0) rfl; have r1 := X2.out.cell (i := 1) rfl; have s1 := Y2.out.cell (i := 1) rfl; have r2 := X2.out.cell (i := 2) rfl; have s2 := Y2.out.cell (i := 2) rfl; clear p0 p1 p2 q0 q1 q2; clear hb)
              | (go_at_call 9; (with_reducible refine (G9.out _).mono ?_); rintro e w1 ⟨rfl, hb⟩; have B1 := Lib.hid (B0.out.trans (hb.mono B0.out.size)); have X1 := Lib.hid (X0.out.below hb); have Y1 := Lib.hid (Y0.out.below hb); have p0 := X1.out.cell (i := 0) rfl; have q0 := Y1.out.cell (i := 0) rfl; have p1 := X1.out.cell (i := 1) rfl; have q1 := Y1.out.cell (i := 1) rfl; have p2 := X1.out.cell (i := 2) rfl; have q2 := Y1.out.cell (i := 2) rfl; clear hb))
            all_goals first | (exfalso; exact heq ⟨txt_eq (by assumption), txt_eq (by assumption), txt_eq (by assumption)⟩) | (go_ret; exact ⟨rfl, B5.out⟩)
        · have hne : (usE a2 b2 c2 != 0) = true := by simpa using g1
          generalize usS a b c = U at C1
          generalize usS a2 b2 c2 = U2 at C2
          generalize usE a2 b2 c2 = E at C2 hne
          clear hg hg2 g0 g1
          go_enter Try.func7, Try.ntmps7
          go_wp2_with (first
            | (go_at_call 12; (with_reducible refine (live12 _).mono ?_); rintro e w5 ⟨rfl, hb⟩; have B5 := Lib.hid (B4.out.trans (hb.mono B4.out.size)); clear hb)
            | (go_at_call 10; (with_reducible refine (C2.out _).mono ?_); rintro e w4 ⟨rfl, hb⟩; have B4 := Lib.hid (B3.out.trans (hb.mono B3.out.size)); have X4 := Lib.hid (X3.out.below hb); have Y4 := Lib.hid (Y3.out.below hb); have r0 := X4.out.cell (i := 0) rfl; have s0 := Y4.out.cell (i := 0) rfl; have r1 := X4.out.cell (i := 1) rfl; have s1 := Y4.out.cell (i := 1) rfl; have r2 := X4.out.cell (i := 2) rfl; have s2 := Y4.out.cell (i := 2) rfl; clear p0 p1 p2 q0 q1 q2; clear hb)
            | (go_at_call 10; (with_reducible refine (C1.out _).mono ?_); rintro e w3 ⟨rfl, hb⟩; have B3 := Lib.hid (B2.out.trans (hb.mono B2.out.size)); have X3 := Lib.hid (X2.out.below hb); have Y3 := Lib.hid (Y2.out.below hb); have p0 := X3.out.cell (i := 0) rfl; have q0 := Y3.out.cell (i := 0) rfl; have p1 := X3.out.cell (i := 1) rfl; have q1 := Y3.out.cell (i := 1) rfl; have p2 := X3.out.cell (i := 2) rfl; have q2 := Y3.out.cell (i := 2) rfl; clear r0 r1 r2 s0 s1 s2; clear hb)
            | (go_at_call 9; (with_reducible refine (H9.out _).mono ?_); rintro e w2 ⟨rfl, hb⟩; have B2 := Lib.hid (B1.out.trans (hb.mono B1.out.size)); have X2 := Lib.hid (X1.out.below hb); have Y2 := Lib.hid (Y1.out.below hb); have r0 := X2.out.cell (i := 0) rfl; have s0 := Y2.out.cell (i := 0) rfl; have r1 := X2.out.cell (i := 1) rfl; have s1 := Y2.out.cell (i := 1) rfl; have r2 := X2.out.cell (i := 2) rfl; have s2 := Y2.out.cell (i := 2) rfl; clear p0 p1 p2 q0 q1 q2; clear hb)
            | (go_at_call 9; (with_reducible refine (G9.out _).mono ?_); rintro e w1 ⟨rfl, hb⟩; have B1 := Lib.hid (B0.out.trans (hb.mono B0.out.size)); have X1 := Lib.hid (X0.out.below hb); have Y1 := Lib.hid (Y0.out.below hb); have p0 := X1.out.cell (i := 0) rfl; have q0 := Y1.out.cell (i := 0) rfl; have p1 := X1.out.cell (i := 1) rfl; have q1 := Y1.out.cell (i := 1) rfl; have p2 := X1.out.cell (i := 2) rfl; have q2 := Y1.out.cell (i := 2) rfl; clear hb))
          go_ret
          exact ⟨rfl, B5.out⟩
      · have hne : (usE a b c != 0) = true := by simpa using g0
        generalize usS a b c = U at C1
        generalize usS a2 b2 c2 = U2 at C2
        generalize usE a b c = E at C1 hne
        generalize usE a2 b2 c2 = E2 at C2
        clear hg hg2 g0
        go_enter Try.func7, Try.ntmps7
        go_wp2_with (first
            | (go_at_call 12; (with_reducible refine (live12 _).mono ?_); rintro e w5 ⟨rfl, hb⟩; have B5 := Lib.hid (B4.out.trans (hb.mono B4.out.size)); clear hb)
            | (go_at_call 10; (with_reducible refine (C2.out _).mono ?_); rintro e w4 ⟨rfl, hb⟩; have B4 := Lib.hid (B3.out.trans (hb.mono B3.out.size)); have X4 := Lib.hid (X3.out.below hb); have Y4 := Lib.hid (Y3.out.below hb); have r0 := X4.out.cell (i := 0) rfl; have s0 := Y4.out.cell (i := 0) rfl; have r1 := X4.out.cell (i := 1) rfl; have s1 := Y4.out.cell (i := 1) rfl; have r2 := X4.out.cell (i := 2) rfl; have s2 := Y4.out.cell (i := 2) rfl; clear p0 p1 p2 q0 q1 q2; clear hb)
            | (go_at_call 10; (with_reducible refine (C1.out _).mono ?_); rintro e w3 ⟨rfl, hb⟩; have B3 := Lib.hid (B2.out.trans (hb.mono B2.out.size)); have X3 := Lib.hid (X2.out.below hb); have Y3 := Lib.hid (Y2.out.below hb); have p0 := X3.out.cell (i := 0) rfl; have q0 := Y3.out.cell (i := 0) rfl; have p1 := X3.out.cell (i := 1) rfl; have q1 := Y3.out.cell (i := 1) rfl; have p2 := X3.out.cell (i := 2) rfl; have q2 := Y3.out.cell (i := 2) rfl; clear r0 r1 r2 s0 s1 s2; clear hb)
            | (go_at_call 9; (with_reducible refine (H9.out _).mono ?_); rintro e w2 ⟨rfl, hb⟩; have B2 := Lib.hid (B1.out.trans (hb.mono B1.out.size)); have X2 := Lib.hid (X1.out.below hb); have Y2 := Lib.hid (Y1.out.below hb); have r0 := X2.out.cell (i := 0) rfl; have s0 := Y2.out.cell (i := 0) rfl; have r1 := X2.out.cell (i := 1) rfl; have s1 := Y2.out.cell (i := 1) rfl; have r2 := X2.out.cell (i := 2) rfl; have s2 := Y2.out.cell (i := 2) rfl; clear p0 p1 p2 q0 q1 q2; clear hb)
            | (go_at_call 9; (with_reducible refine (G9.out _).mono ?_); rintro e w1 ⟨rfl, hb⟩; have B1 := Lib.hid (B0.out.trans (hb.mono B0.out.size)); have X1 := Lib.hid (X0.out.below hb); have Y1 := Lib.hid (Y0.out.below hb); have p0 := X1.out.cell (i := 0) rfl; have q0 := Y1.out.cell (i := 0) rfl; have p1 := X1.out.cell (i := 1) rfl; have q1 := Y1.out.cell (i := 1) rfl; have p2 := X1.out.cell (i := 2) rfl; have q2 := Y1.out.cell (i := 2) rfl; clear hb))
        go_ret
        exact ⟨rfl, B5.out⟩
    · rw [decide_eq_false hg2] at H9
      clear hg hg2
      go_enter Try.func7, Try.ntmps7
      go_wp2_with (first
        | (go_at_call 9; (with_reducible refine (H9.out _).mono ?_); rintro e w2 ⟨rfl, hb⟩; have B2 := Lib.hid (B1.out.trans (hb.mono B1.out.size)); have X2 := Lib.hid (X1.out.below hb); have Y2 := Lib.hid (Y1.out.below hb); have r0 := X2.out.cell (i := 0) rfl; have s0 := Y2.out.cell (i := 0) rfl; have r1 := X2.out.cell (i := 1) rfl; have s1 := Y2.out.cell (i := 1) rfl; have r2 := X2.out.cell (i := 2) rfl; have s2 := Y2.out.cell (i := 2) rfl; clear p0 p1 p2 q0 q1 q2; clear hb)
        | (go_at_call 9; (with_reducible refine (G9.out _).mono ?_); rintro e w1 ⟨rfl, hb⟩; have B1 := Lib.hid (B0.out.trans (hb.mono B0.out.size)); have X1 := Lib.hid (X0.out.below hb); have Y1 := Lib.hid (Y0.out.below hb); have p0 := X1.out.cell (i := 0) rfl; have q0 := Y1.out.cell (i := 0) rfl; have p1 := X1.out.cell (i := 1) rfl; have q1 := Y1.out.cell (i := 1) rfl; have p2 := X1.out.cell (i := 2) rfl; have q2 := Y1.out.cell (i := 2) rfl; clear hb))
      go_ret
      exact ⟨rfl, B2.out⟩
  · rw [decide_eq_false hg] at G9
    clear hg
    go_enter Try.func7, Try.ntmps7
    go_wp2_with (first
      | (go_at_call 9; (with_reducible refine (G9.out _).mono ?_); rintro e w1 ⟨rfl, hb⟩; have B1 := Lib.hid (B0.out.trans (hb.mono B0.out.size)); have X1 := Lib.hid (X0.out.below hb); have Y1 := Lib.hid (Y0.out.below hb); have p0 := X1.out.cell (i := 0) rfl; have q0 := Y1.out.cell (i := 0) rfl; have p1 := X1.out.cell (i := 1) rfl; have q1 := Y1.out.cell (i := 1) rfl; have p2 := X1.out.cell (i := 2) rfl; have q2 := Y1.out.cell (i := 2) rfl; clear hb))
    go_ret
    exact ⟨rfl, B1.out⟩
end Go.Proofs.Ytkcceobncjoodaa
