/- Who types: the walk of TypingStarts. -/
import Derived.Test.YtjifohepbmaebaaT15
import Derived.Test.YtjifohepbmaebaaT10
namespace Go.Proofs.Ytjifohepbmaebaa
open Go.RowKit Go.Maps Go.Proofs
set_option linter.unusedVariables false
set_option linter.unusedSimpArgs false

set_option maxRecDepth 100000 in
set_option maxHeartbeats 4000000 in
theorem starts_walk (A : Option Addr) (n c : Nat) (zs : List Tp) (s : ByteArray) (now span : Int) (hsz : s.size ≤ 9223372036854775807) (w : World) (h : Tps w A n c zs) : Calls Try.prog 4 #[.slice A n c, .agg #[.string s, .int .i64 now, .int .i64 span]] w fun e w' => e = .returned (.bool true) ∧ Below w.heap.size w w' := by
  have B0 := Lib.hid ((Below.refl w.heap.size w).alloc (Nat.le_refl _) (.cells #[.string s, .int .i64 now, .int .i64 span] 28))
  have X0 := Lib.hid (blk_new w [.string s, .int .i64 now, .int .i64 span] 28)
  have G := Lib.hid (great9 A n c zs (w.alloc (.cells #[.string s, .int .i64 now, .int .i64 span] 28)) (h.below B0.out))
  have C1 := Lib.hid (fun (hn : n ≤ 40) u (hb : Below w.heap.size w u) => start13_any A n c zs s now span u (h.below hb) hsz (by omega))
  have R1 := Lib.hid (fun (hn : n ≤ 40) u (hb : Below w.heap.size w u) => rstart14_any A n c zs s now span u (h.below hb) hsz (by omega))
  have LV := Lib.hid (fun u => live12 u)
  clear h
  generalize (outT s now span zs).length = m at C1 R1
  generalize outT s now span zs = zz at C1 R1
  generalize ert s now span = r at C1 R1
  by_cases hs : 200 < s.size
  · have hs2 : (200 : Int) < (s.size : Int) := by omega
    go_enter Try.func4, Try.ntmps4
    go_wp2_with (go_at_call 9; (with_reducible refine G.out.mono ?_); rintro e w1 ⟨⟨b, rfl, hq⟩, hb1⟩; have c0 := (X0.out.below hb1).cell (i := 0) rfl; have B1 := Lib.hid (B0.out.trans (hb1.mono B0.out.size)); clear hb1 hq; cases b)
    all_goals go_ret
    all_goals exact ⟨rfl, B1.out⟩
  · have hs2 : ¬ (200 : Int) < (s.size : Int) := by omega
    go_enter Try.func4, Try.ntmps4
    go_wp2_with (first
      | (go_at_call 9; (with_reducible refine G.out.mono ?_); rintro e w1 ⟨⟨b, rfl, hq⟩, hb1⟩; have X1 := Lib.hid (X0.out.below hb1); have c0 := X1.out.cell (i := 0) rfl; have c1 := X1.out.cell (i := 1) rfl; have c2 := X1.out.cell (i := 2) rfl; have B1 := Lib.hid (B0.out.trans (hb1.mono B0.out.size)); have Q := Lib.hid hq; clear hb1 hq; cases b)
      | (go_at_call 13; (with_reducible refine (C1.out (Q.out trivial) _ B1.out).mono ?_); rintro e w2 ⟨A2, q2, rfl, hT, hb2⟩; have d0 := (X1.out.below hb2).cell (i := 0) rfl; have d1 := (X1.out.below hb2).cell (i := 1) rfl; have d2 := (X1.out.below hb2).cell (i := 2) rfl; have T2 := Lib.hid hT; have B2 := Lib.hid (B1.out.trans (hb2.mono B1.out.size)); clear hT hb2)
      | (go_at_call 14; (with_reducible refine (R1.out (Q.out trivial) _ B2.out).mono ?_); rintro e w3 ⟨A3, q3, rfl, hT, hb3⟩; have T2' := Lib.hid (T2.out.below hb3); have T3 := Lib.hid hT; have B3 := Lib.hid (B2.out.trans (hb3.mono B2.out.size)); clear hT hb3)
      | (go_at_call 15; (with_reducible refine (same15 A2 A3 _ q2 q3 zz _ T2'.out T3.out).mono ?_); rintro e w4 ⟨rfl, hb4⟩; have B4 := Lib.hid (B3.out.trans (hb4.mono B3.out.size)); clear hb4)
      | (go_at_call 12; (with_reducible refine (LV.out _).mono ?_); rintro e w5 ⟨rfl, hb5⟩; have B5 := Lib.hid (B4.out.trans (hb5.mono B4.out.size)); clear hb5))
    all_goals go_ret
    all_goals first
      | exact ⟨rfl, B5.out⟩
      | exact ⟨rfl, B1.out⟩
theorem ce28 : Try.prog.cellsOf 28 = 3 := by kernel_rfl
end Go.Proofs.Ytjifohepbmaebaa
