/- Who types: the walk of TypingStays. -/
import Derived.Test.YtjifohepbmaebaaT16
import Derived.Test.YtjifohepbmaebaaT17
namespace Go.Proofs.Ytjifohepbmaebaa
open Go.RowKit Go.Maps Go.Proofs
set_option linter.unusedVariables false
set_option linter.unusedSimpArgs false

theorem check_right (A : Option Addr) (n c : Nat) (zs : List Tp) (w : World) (h : Tps w A n c zs) (hR : Right zs) (hn : n ≤ 1000000) : Calls Try.prog 10 #[.slice A n c] w fun e w' => e = .returned (.int .i64 0) ∧ Below w.heap.size w w' :=
  (check10 A n c zs w h hn).mono fun e w' ⟨h1, h2⟩ => by
    unfold ChkR at h1
    rw [chk_of_right h.len.symm hR] at h1
    exact ⟨h1, h2⟩
theorem check_wrong (A : Option Addr) (n c : Nat) (zs : List Tp) (w : World) (h : Tps w A n c zs) (r : Int) (hr : chk zs n = r) (hn : n ≤ 1000000) : Calls Try.prog 10 #[.slice A n c] w fun e w' => e = .returned (.int .i64 r) ∧ Below w.heap.size w w' :=
  (check10 A n c zs w h hn).mono fun e w' ⟨h1, h2⟩ => by
    unfold ChkR at h1
    rw [hr] at h1
    exact ⟨h1, h2⟩
set_option maxRecDepth 100000 in
set_option maxHeartbeats 4000000 in
theorem stays_walk (A : Option Addr) (n c : Nat) (zs : List Tp) (s : ByteArray) (now span : Int) (hsz : s.size ≤ 9223372036854775807) (w : World) (h : Tps w A n c zs) : Calls Try.prog 6 #[.slice A n c, .agg #[.string s, .int .i64 now, .int .i64 span]] w fun e w' => e = .returned (.bool true) ∧ Below w.heap.size w w' := by
  have B0 := Lib.hid ((Below.refl w.heap.size w).alloc (Nat.le_refl _) (.cells #[.string s, .int .i64 now, .int .i64 span] 28))
  have X0 := Lib.hid (blk_new w [.string s, .int .i64 now, .int .i64 span] 28)
  have G := Lib.hid (great9 A n c zs (w.alloc (.cells #[.string s, .int .i64 now, .int .i64 span] 28)) (h.below B0.out))
  have H := Lib.hid h
  have LV := Lib.hid (fun u => live12 u)
  by_cases hs : 200 < s.size
  · have hs2 : (200 : Int) < (s.size : Int) := by omega
    clear h
    go_enter Try.func6, Try.ntmps6
    go_wp2_with (first
      | (go_at_call 9; (with_reducible refine (G.out).mono ?_); rintro e w1 ⟨⟨b, rfl, hq⟩, hb⟩; have X1 := Lib.hid (X0.out.below hb); have c01 := X1.out.cell (i := 0) rfl; have c11 := X1.out.cell (i := 1) rfl; have c21 := X1.out.cell (i := 2) rfl; have B1 := Lib.hid (B0.out.trans (hb.mono B0.out.size)); have Q := Lib.hid hq; clear hq; clear hb; cases b)
      | (go_at_call 12; (with_reducible refine (LV.out _).mono ?_); rintro e wl ⟨rfl, hb⟩; have BL := Lib.hid hb; clear hb))
    all_goals go_ret
    all_goals exact ⟨rfl, B1.out.trans (BL.out.mono B1.out.size)⟩
  · have hs2 : ¬ (200 : Int) < (s.size : Int) := by omega
    by_cases hr : chk zs n = 0
    · have HR := Lib.hid (right_of_chk (zs := zs) (by rw [h.len]; exact hr))
      have CL := Lib.hid (fun (hn : n ≤ 40) u (hb : Below w.heap.size w u) => check_right A n c zs u (h.below hb) HR.out (by omega))
      have CS := Lib.hid (fun (hn : n ≤ 40) u (hb : Below w.heap.size w u) => start13_any A n c zs s now span u (h.below hb) hsz (by omega))
      have CP := Lib.hid (fun (hn : n ≤ 40) u (hb : Below w.heap.size w u) => stop16 A n c zs s u (h.below hb) (by omega))
      have CC := Lib.hid (fun (hn : n ≤ 40) u (hb : Below w.heap.size w u) => clean18 A n c zs now u (h.below hb) (by omega))
      obtain ⟨xs, hxs⟩ : ∃ xs, xs = zs.filter fun p => !pu s p := ⟨_, rfl⟩
      obtain ⟨ys, hys⟩ : ∃ ys, ys = zs.filter fun p => !pc now p := ⟨_, rfl⟩
      have RX : Hid (Right xs) := Lib.hid (by rw [hxs]; exact HR.out.filter _)
      have RY : Hid (Right ys) := Lib.hid (by rw [hys]; exact HR.out.filter _)
      have LX : Hid (xs.length ≤ n) := Lib.hid (by rw [hxs, ← h.len]; exact List.length_filter_le _ _)
      have LY : Hid (ys.length ≤ n) := Lib.hid (by rw [hys, ← h.len]; exact List.length_filter_le _ _)
      rw [← hxs] at CP
      rw [← hys] at CC
      obtain ⟨zz, hzz⟩ : ∃ zz, zz = outT s now span zs := ⟨_, rfl⟩
      obtain ⟨r, hrr⟩ : ∃ r, r = ert s now span := ⟨_, rfl⟩
      have RZ : Hid (r = 0 → Right zz) := Lib.hid (by rw [hzz, hrr]; exact fun h => HR.out.out h)
      have LZ : Hid (zz.length ≤ n + 1) := Lib.hid (by rw [hzz, ← h.len]; exact outT_len _ _ _ _)
      rw [← hzz, ← hrr] at CS
      clear h hr hxs hys hzz hrr HR
      by_cases he : r = 0
      · subst he
        have RZ2 := Lib.hid (RZ.out rfl)
        go_enter Try.func6, Try.ntmps6
        go_wp2_with (first
          | (go_at_call 9; (with_reducible refine (G.out).mono ?_); rintro e w1 ⟨⟨b, rfl, hq⟩, hb⟩; have X1 := Lib.hid (X0.out.below hb); have c01 := X1.out.cell (i := 0) rfl; have c11 := X1.out.cell (i := 1) rfl; have c21 := X1.out.cell (i := 2) rfl; have B1 := Lib.hid (B0.out.trans (hb.mono B0.out.size)); have Q := Lib.hid hq; clear hq; clear hb; cases b)
          | (go_at_call 10; (with_reducible refine (CL.out (Q.out trivial) _ B1.out).mono ?_); rintro e w2 ⟨rfl, hb⟩; have X2 := Lib.hid (X1.out.below hb); have c02 := X2.out.cell (i := 0) rfl; have c12 := X2.out.cell (i := 1) rfl; have c22 := X2.out.cell (i := 2) rfl; have B2 := Lib.hid (B1.out.trans (hb.mono B1.out.size)); clear hb)
          | (go_at_call 13; (with_reducible refine (CS.out (Q.out trivial) _ B2.out).mono ?_); rintro e w3 ⟨A3, c3, rfl, hT, hb⟩; have X3 := Lib.hid (X2.out.below hb); have c03 := X3.out.cell (i := 0) rfl; have c13 := X3.out.cell (i := 1) rfl; have c23 := X3.out.cell (i := 2) rfl; have B3 := Lib.hid (B2.out.trans (hb.mono B2.out.size)); have T3 := Lib.hid hT; clear hT; clear hb)
          | (go_at_call 10; (with_reducible refine (check_right A3 _ c3 zz _ T3.out RZ2.out (Nat.le_trans LZ.out (by have := Q.out trivial; omega))).mono ?_); rintro e w4 ⟨rfl, hb⟩; have X4 := Lib.hid (X3.out.below hb); have c04 := X4.out.cell (i := 0) rfl; have c14 := X4.out.cell (i := 1) rfl; have c24 := X4.out.cell (i := 2) rfl; have B4 := Lib.hid (B3.out.trans (hb.mono B3.out.size)); clear hb)
          | (go_at_call 16; (with_reducible refine (CP.out (Q.out trivial) _ B4.out).mono ?_); rintro e w5 ⟨A5, c5, rfl, hT, hb, _⟩; have X5 := Lib.hid (X4.out.below hb); have c05 := X5.out.cell (i := 0) rfl; have c15 := X5.out.cell (i := 1) rfl; have c25 := X5.out.cell (i := 2) rfl; have B5 := Lib.hid (B4.out.trans (hb.mono B4.out.size)); have T5 := Lib.hid hT; clear hT; clear hb)
          | (go_at_call 10; (with_reducible refine (check_right A5 _ c5 xs _ T5.out RX.out (Nat.le_trans LX.out (by have := Q.out trivial; omega))).mono ?_); rintro e w6 ⟨rfl, hb⟩; have X6 := Lib.hid (X5.out.below hb); have c06 := X6.out.cell (i := 0) rfl; have c16 := X6.out.cell (i := 1) rfl; have c26 := X6.out.cell (i := 2) rfl; have B6 := Lib.hid (B5.out.trans (hb.mono B5.out.size)); clear hb)
          | (go_at_call 18; (with_reducible refine (CC.out (Q.out trivial) _ B6.out).mono ?_); rintro e w7 ⟨A7, c7, rfl, hT, hb, _⟩; have X7 := Lib.hid (X6.out.below hb); have c07 := X7.out.cell (i := 0) rfl; have c17 := X7.out.cell (i := 1) rfl; have c27 := X7.out.cell (i := 2) rfl; have B7 := Lib.hid (B6.out.trans (hb.mono B6.out.size)); have T7 := Lib.hid hT; clear hT; clear hb)
          | (go_at_call 10; (with_reducible refine (check_right A7 _ c7 ys _ T7.out RY.out (Nat.le_trans LY.out (by have := Q.out trivial; omega))).mono ?_); rintro e w8 ⟨rfl, hb⟩; have X8 := Lib.hid (X7.out.below hb); have c08 := X8.out.cell (i := 0) rfl; have c18 := X8.out.cell (i := 1) rfl; have c28 := X8.out.cell (i := 2) rfl; have B8 := Lib.hid (B7.out.trans (hb.mono B7.out.size)); clear hb)
          | (go_at_call 12; (with_reducible refine (LV.out _).mono ?_); rintro e wl ⟨rfl, hb⟩; have BL := Lib.hid hb; clear hb))
        all_goals go_ret
        all_goals first
          | exact ⟨rfl, B8.out.trans (BL.out.mono B8.out.size)⟩
          | exact ⟨rfl, B1.out.trans (BL.out.mono B1.out.size)⟩
      · go_enter Try.func6, Try.ntmps6
        go_wp2_with (first
          | (go_at_call 9; (with_reducible refine (G.out).mono ?_); rintro e w1 ⟨⟨b, rfl, hq⟩, hb⟩; have X1 := Lib.hid (X0.out.below hb); have c01 := X1.out.cell (i := 0) rfl; have c11 := X1.out.cell (i := 1) rfl; have c21 := X1.out.cell (i := 2) rfl; have B1 := Lib.hid (B0.out.trans (hb.mono B0.out.size)); have Q := Lib.hid hq; clear hq; clear hb; cases b)
          | (go_at_call 10; (with_reducible refine (CL.out (Q.out trivial) _ B1.out).mono ?_); rintro e w2 ⟨rfl, hb⟩; have X2 := Lib.hid (X1.out.below hb); have c02 := X2.out.cell (i := 0) rfl; have c12 := X2.out.cell (i := 1) rfl; have c22 := X2.out.cell (i := 2) rfl; have B2 := Lib.hid (B1.out.trans (hb.mono B1.out.size)); clear hb)
          | (go_at_call 13; (with_reducible refine (CS.out (Q.out trivial) _ B2.out).mono ?_); rintro e w3 ⟨A3, c3, rfl, hT, hb⟩; have X3 := Lib.hid (X2.out.below hb); have c03 := X3.out.cell (i := 0) rfl; have c13 := X3.out.cell (i := 1) rfl; have c23 := X3.out.cell (i := 2) rfl; have B3 := Lib.hid (B2.out.trans (hb.mono B2.out.size)); have T3 := Lib.hid hT; clear hT; clear hb)
          | (go_at_call 16; (with_reducible refine (CP.out (Q.out trivial) _ B3.out).mono ?_); rintro e w5 ⟨A5, c5, rfl, hT, hb, _⟩; have X5 := Lib.hid (X3.out.below hb); have c05 := X5.out.cell (i := 0) rfl; have c15 := X5.out.cell (i := 1) rfl; have c25 := X5.out.cell (i := 2) rfl; have B5 := Lib.hid (B3.out.trans (hb.mono B3.out.size)); have T5 := Lib.hid hT; clear hT; clear hb)
          | (go_at_call 10; (with_reducible refine (check_right A5 _ c5 xs _ T5.out RX.out (Nat.le_trans LX.out (by have := Q.out trivial; omega))).mono ?_); rintro e w6 ⟨rfl, hb⟩; have X6 := Lib.hid (X5.out.below hb); have c06 := X6.out.cell (i := 0) rfl; have c16 := X6.out.cell (i := 1) rfl; have c26 := X6.out.cell (i := 2) rfl; have B6 := Lib.hid (B5.out.trans (hb.mono B5.out.size)); clear hb)
          | (go_at_call 18; (with_reducible refine (CC.out (Q.out trivial) _ B6.out).mono ?_); rintro e w7 ⟨A7, c7, rfl, hT, hb, _⟩; have X7 := Lib.hid (X6.out.below hb); have c07 := X7.out.cell (i := 0) rfl; have c17 := X7.out.cell (i := 1) rfl; have c27 := X7.out.cell (i := 2) rfl; have B7 := Lib.hid (B6.out.trans (hb.mono B6.out.size)); have T7 := Lib.hid hT; clear hT; clear hb)
          | (go_at_call 10; (with_reducible refine (check_right A7 _ c7 ys _ T7.out RY.out (Nat.le_trans LY.out (by have := Q.out trivial; omega))).mono ?_); rintro e w8 ⟨rfl, hb⟩; have X8 := Lib.hid (X7.out.below hb); have c08 := X8.out.cell (i := 0) rfl; have c18 := X8.out.cell (i := 1) rfl; have c28 := X8.out.cell (i := 2) rfl; have B8 := Lib.hid (B7.out.trans (hb.mono B7.out.size)); clear hb)
          | (go_at_call 12; (with_reducible refine (LV.out _).mono ?_); rintro e wl ⟨rfl, hb⟩; have BL := Lib.hid hb; clear hb))
        all_goals go_ret
        all_goals first
          | exact ⟨rfl, B8.out.trans (BL.out.mono B8.out.size)⟩
          | exact ⟨rfl, B1.out.trans (BL.out.mono B1.out.size)⟩
    · obtain ⟨r, hrr⟩ : ∃ r, chk zs n = r := ⟨_, rfl⟩
      have CL := Lib.hid (fun (hn : n ≤ 40) u (hb : Below w.heap.size w u) => check_wrong A n c zs u (h.below hb) r hrr (by omega))
      rw [hrr] at hr
      clear h hrr
      have hrb : (r != 0) = true := by simpa using hr
      have hrc : (r == 0) = false := by simpa using hr
      clear hr
      go_enter Try.func6, Try.ntmps6
      go_wp2_with (first
        | (go_at_call 9; (with_reducible refine (G.out).mono ?_); rintro e w1 ⟨⟨b, rfl, hq⟩, hb⟩; have X1 := Lib.hid (X0.out.below hb); have c01 := X1.out.cell (i := 0) rfl; have c11 := X1.out.cell (i := 1) rfl; have c21 := X1.out.cell (i := 2) rfl; have B1 := Lib.hid (B0.out.trans (hb.mono B0.out.size)); have Q := Lib.hid hq; clear hq; clear hb; cases b)
        | (go_at_call 10; (with_reducible refine (CL.out (Q.out trivial) _ B1.out).mono ?_); rintro e w2 ⟨rfl, hb⟩; have X2 := Lib.hid (X1.out.below hb); have c02 := X2.out.cell (i := 0) rfl; have c12 := X2.out.cell (i := 1) rfl; have c22 := X2.out.cell (i := 2) rfl; have B2 := Lib.hid (B1.out.trans (hb.mono B1.out.size)); clear hb)
        | (go_at_call 12; (with_reducible refine (LV.out _).mono ?_); rintro e wl ⟨rfl, hb⟩; have BL := Lib.hid hb; clear hb))
      all_goals go_ret
      all_goals first
        | exact ⟨rfl, B2.out.trans (BL.out.mono B2.out.size)⟩
        | exact ⟨rfl, B1.out.trans (BL.out.mono B1.out.size)⟩
end Go.Proofs.Ytjifohepbmaebaa
