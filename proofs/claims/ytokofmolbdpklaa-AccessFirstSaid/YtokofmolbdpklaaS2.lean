/- The reference's Same at equal data. No condition. -/
import Derived.Test.YtokofmolbdpklaaS1
namespace Go.Proofs.Ytokofmolbdpklaa
open Go.RowKit
set_option linter.unusedVariables false

set_option maxHeartbeats 4000000 in
theorem same16 (C : Ct) (a a' : Ads) (w : World) (h : IsCt w C a) (h' : IsCt w C a') :
    Calls Try.prog 16 #[.agg (cells C a).toArray, .agg (cells C a').toArray] w fun e w' => e = .returned (.bool true) ∧ Below w.heap.size w w' := by
  obtain ⟨tx, n, tg, th, via, nA, al, nD, dn, ⟨nU, U, nK, K, d, x3, x4, x5, x6, x7, x8⟩⟩ := C
  obtain ⟨aA, aC, dA, dC, uA, uC, kA, kC⟩ := a
  obtain ⟨aA', aC', dA', dC', uA', uC', kA', kC'⟩ := a'
  have H := Lib.hid h
  have H' := Lib.hid h'
  clear h h'
  have B2 := Lib.hid (below_two' w (.cells (ctc tx n tg th via aA nA aC dA nD dC uA nU uC kA nK kC d x3 x4 x5 x6 x7 x8).toArray 28) (.cells (ctc tx n tg th via aA' nA aC' dA' nD dC' uA' nU uC' kA' nK kC' d x3 x4 x5 x6 x7 x8).toArray 28))
  have X1 := Lib.hid ((blk_new w (ctc tx n tg th via aA nA aC dA nD dC uA nU uC kA nK kC d x3 x4 x5 x6 x7 x8) 28).alloc (.cells (ctc tx n tg th via aA' nA aC' dA' nD dC' uA' nU uC' kA' nK kC' d x3 x4 x5 x6 x7 x8).toArray 28))
  have X2 := Lib.hid (blk_second' w (.cells (ctc tx n tg th via aA nA aC dA nD dC uA nU uC kA nK kC d x3 x4 x5 x6 x7 x8).toArray 28) (ctc tx n tg th via aA' nA aC' dA' nD dC' uA' nU uC' kA' nK kC' d x3 x4 x5 x6 x7 x8) 28)
  show Calls Try.prog 16 #[.agg #[.string tx, .int .i64 n, .int .i64 tg, .bool th, .string via, .slice aA nA aC, .slice dA nD dC, .slice uA nU uC, .slice kA nK kC, .int .i64 d, .int .i64 x3, .int .i64 x4, .int .i64 x5, .int .i64 x6, .int .i64 x7, .int .i64 x8], .agg #[.string tx, .int .i64 n, .int .i64 tg, .bool th, .string via, .slice aA' nA aC', .slice dA' nD dC', .slice uA' nU uC', .slice kA' nK kC', .int .i64 d, .int .i64 x3, .int .i64 x4, .int .i64 x5, .int .i64 x6, .int .i64 x7, .int .i64 x8]] w _
  go_enter Try.func16, Try.ntmps16
  go_upto_region 1 with (fail)
  generalize hb2 : w.heap.size + 1 = b2 at X2 ⊢
  generalize hb0 : w.heap.size = b1 at X1 ⊢
  generalize hw2 : ((w.alloc _).alloc _) = w2 at X1 X2 B2 ⊢
  have HB0 := Lib.hid hb0
  clear hb2 hb0 hw2
  have i0 := X1.out.cell (i := 0) rfl
  have i1 := X1.out.cell (i := 1) rfl
  have i2 := X1.out.cell (i := 2) rfl
  have i3 := X1.out.cell (i := 3) rfl
  have i4 := X1.out.cell (i := 4) rfl
  have i5 := X1.out.cell (i := 5) rfl
  have j0 := X2.out.cell (i := 0) rfl
  have j1 := X2.out.cell (i := 1) rfl
  have j2 := X2.out.cell (i := 2) rfl
  have j3 := X2.out.cell (i := 3) rfl
  have j4 := X2.out.cell (i := 4) rfl
  have j5 := X2.out.cell (i := 5) rfl
  have q1 : (tx.toList == tx.toList) = true := beq_self_eq_true _
  have q2 : (via.toList == via.toList) = true := beq_self_eq_true _
  have q3 : (n == n) = true := beq_self_eq_true _
  have q4 : (tg == tg) = true := beq_self_eq_true _
  have q5 : (th == th) = true := beq_self_eq_true _
  go_wp2_with (first
    | (go_at_call 23; (with_reducible refine (same23 aA aA' nA aC aC' al _ (H.out.al.below B2.out) (H'.out.al.below B2.out)).mono ?_); rintro e w3 ⟨rfl, hb3⟩; have Y1 := Lib.hid (X1.out.below hb3); have Y2 := Lib.hid (X2.out.below hb3); have B3 := Lib.hid (B2.out.trans (hb3.mono B2.out.size)); have m6 := Y1.out.cell (i := 6) rfl; have n6 := Y2.out.cell (i := 6) rfl)
    | (go_at_call 23; (with_reducible refine (same23 dA dA' nD dC dC' dn _ (H.out.dn.below B3.out) (H'.out.dn.below B3.out)).mono ?_); rintro e w4 ⟨rfl, hb4⟩; have Z1 := Lib.hid (Y1.out.below hb4); have Z2 := Lib.hid (Y2.out.below hb4); have B4 := Lib.hid (B3.out.trans (hb4.mono B3.out.size)); have m7 := Z1.out.cell (i := 7) rfl; have m8 := Z1.out.cell (i := 8) rfl; have m9 := Z1.out.cell (i := 9) rfl; have m10 := Z1.out.cell (i := 10) rfl; have m11 := Z1.out.cell (i := 11) rfl; have m12 := Z1.out.cell (i := 12) rfl; have m13 := Z1.out.cell (i := 13) rfl; have m14 := Z1.out.cell (i := 14) rfl; have m15 := Z1.out.cell (i := 15) rfl; have n7 := Z2.out.cell (i := 7) rfl; have n8 := Z2.out.cell (i := 8) rfl; have n9 := Z2.out.cell (i := 9) rfl; have n10 := Z2.out.cell (i := 10) rfl; have n11 := Z2.out.cell (i := 11) rfl; have n12 := Z2.out.cell (i := 12) rfl; have n13 := Z2.out.cell (i := 13) rfl; have n14 := Z2.out.cell (i := 14) rfl; have n15 := Z2.out.cell (i := 15) rfl)
    | (go_at_call 24; (with_reducible refine (same24 uA uA' kA kA' nU uC uC' nK kC kC' d x3 x4 x5 x6 x7 x8 U K _ (H.out.us.below B4.out) (H'.out.us.below B4.out) (H.out.ks.below B4.out) (H'.out.ks.below B4.out)).mono ?_); rintro e w5 ⟨rfl, hb5⟩; have B5 := Lib.hid (B4.out.trans (hb5.mono B4.out.size))))
  go_ret
  exact ⟨rfl, B5.out⟩
end Go.Proofs.Ytokofmolbdpklaa
