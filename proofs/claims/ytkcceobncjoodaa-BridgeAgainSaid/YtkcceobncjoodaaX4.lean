/- Identities of other networks: the walk of BridgeAgain. -/
import Derived.Test.YtkcceobncjoodaaX1
import Derived.Test.YtkcceobncjoodaaY1
namespace Go.Proofs.Ytkcceobncjoodaa
open Go.RowKit
set_option linter.unusedVariables false
set_option linter.unusedSimpArgs false

set_option maxRecDepth 100000 in
set_option maxHeartbeats 8000000 in
theorem again_walk (A : Option Addr) (n k : Nat) (zs : List Rc) (a b c d : ByteArray) (w : World) (hd : d.size ≤ 9223372036854775807) (h : Rcs w A n k zs) : Calls Try.prog 8 #[.slice A n k, .agg #[.string a, .string b, .string c], .string d] w fun e w' => e = .returned (.bool true) ∧ Below w.heap.size w w' := by
  have B0 := Lib.hid ((Below.refl w.heap.size w).alloc (Nat.le_refl _) (.cells #[.string a, .string b, .string c] 23))
  have X0 := Lib.hid (show Blk (w.alloc (.cells #[.string a, .string b, .string c] 23)) w.heap.size [.string a, .string b, .string c] 23 from blk_new w [.string a, .string b, .string c] 23)
  have H := Lib.hid h
  have G15 := Lib.hid (fun v (hb : Below w.heap.size w v) => great15 A n k zs 60 (by decide) v (h.below hb))
  have G9 := Lib.hid (fun v => great9 a b c v)
  cases hL : grL zs n 60
  · rw [hL] at G15
    obtain ⟨hn, hsh⟩ := grL_no hL
    clear hL
    by_cases hg : sh1 ⟨a, b, c⟩
    · rw [decide_eq_true hg] at G9
      by_cases hd1 : (100 : Int) < (d.size : Int)
      · clear hg h hn hsh
        go_enter Try.func8, Try.ntmps8
        go_wp2_with (first
          | (go_at_call 15; (with_reducible refine (G15.out _ B0.out).mono ?_); rintro e w1 ⟨rfl, hb⟩; have B1 := Lib.hid (B0.out.trans (hb.mono B0.out.size)); have X1 := Lib.hid (X0.out.below hb); have a0 := X1.out.cell (i := 0) rfl; have a1 := X1.out.cell (i := 1) rfl; have a2 := X1.out.cell (i := 2) rfl; clear hb)
          | (go_at_call 9; (with_reducible refine (G9.out _).mono ?_); rintro e w2 ⟨rfl, hb⟩; have B2 := Lib.hid (B1.out.trans (hb.mono B1.out.size)); have X2 := Lib.hid (X1.out.below hb); have b0 := X2.out.cell (i := 0) rfl; have b1 := X2.out.cell (i := 1) rfl; have b2 := X2.out.cell (i := 2) rfl; clear a0 a1 a2; clear hb)
          | (go_at_call 12; (with_reducible refine (live12 _).mono ?_); rintro e w3 ⟨rfl, hb⟩; have B3 := Lib.hid (B2.out.trans (hb.mono B2.out.size)); clear hb))
        go_ret
        exact ⟨rfl, B3.out⟩
      · have hn2 : n ≤ 60 := by omega
        have hs5 : Sh 100000 zs := fun p hp => ⟨Nat.le_trans (hsh p hp).1 (by decide), Nat.le_trans (hsh p hp).2.1 (by decide), Nat.le_trans (hsh p hp).2.2 (by decide)⟩
        have K19 := Lib.hid (fun v (hb : Below w.heap.size w v) => check19 A n k zs v (h.below hb) hs5 (by omega))
        by_cases hc : chkC zs n = 0
        · rw [hc] at K19
          have hl := h.len
          have hc2 : chkC zs zs.length = 0 := by rw [hl]; exact hc
          have C1 := Lib.hid (fun v (hb : Below w.heap.size w v) => bind16 A n k zs a b c v (h.below hb) (by omega) (Nat.le_trans hg.1 (by decide)) (Nat.le_trans hg.2.1 (by decide)) (Nat.le_trans hg.2.2 (by decide)))
          unfold BdP at C1
          have LBd := bd_len zs a b c
          have LSh := bd_sh hsh hg.1 hg.2.1 hg.2.2
          by_cases hE : (bd zs a b c).2.2 = 0
          · have K23 := Lib.hid (fun v => (rserver_any d hd v).mono fun e w' (hh : _ ∧ v = w') => (⟨hh.1, hh.2 ▸ Below.refl _ _⟩ : e = .returned (.int .i64 (err (I.isSrv (bys d)))) ∧ Below v.heap.size v w'))
            cases hS : I.isSrv (bys d)
            · rw [hS, err_f] at K23
              generalize bd zs a b c = X at C1 hE LBd LSh
              obtain ⟨L, U, E⟩ := X
              simp only at hE
              subst hE
              unfold BdX at C1
              simp only at C1
              clear hg h hn hsh hs5 hc hc2 hl LBd LSh hS
              go_enter Try.func8, Try.ntmps8
              go_wp2_with (first
                | (go_at_call 15; (with_reducible refine (G15.out _ B0.out).mono ?_); rintro e w1 ⟨rfl, hb⟩; have B1 := Lib.hid (B0.out.trans (hb.mono B0.out.size)); have X1 := Lib.hid (X0.out.below hb); have a0 := X1.out.cell (i := 0) rfl; have a1 := X1.out.cell (i := 1) rfl; have a2 := X1.out.cell (i := 2) rfl; clear hb)
                | (go_at_call 9; (with_reducible refine (G9.out _).mono ?_); rintro e w2 ⟨rfl, hb⟩; have B2 := Lib.hid (B1.out.trans (hb.mono B1.out.size)); have X2 := Lib.hid (X1.out.below hb); have b0 := X2.out.cell (i := 0) rfl; have b1 := X2.out.cell (i := 1) rfl; have b2 := X2.out.cell (i := 2) rfl; clear a0 a1 a2; clear hb)
                | (go_at_call 19; (with_reducible refine (K19.out _ B2.out).mono ?_); rintro e w3 ⟨rfl, hb⟩; have B3 := Lib.hid (B2.out.trans (hb.mono B2.out.size)); have X3 := Lib.hid (X2.out.below hb); have a0 := X3.out.cell (i := 0) rfl; have a1 := X3.out.cell (i := 1) rfl; have a2 := X3.out.cell (i := 2) rfl; clear b0 b1 b2; clear hb)
                | (go_at_call 16; (with_reducible refine (C1.out _ B3.out).mono ?_); rintro e w4 ⟨A4, c4, rfl, hr, hb⟩; have B4 := Lib.hid (B3.out.trans (hb.mono B3.out.size)); have R4 := Lib.hid hr; have X4 := Lib.hid (X3.out.below hb); have b0 := X4.out.cell (i := 0) rfl; have b1 := X4.out.cell (i := 1) rfl; have b2 := X4.out.cell (i := 2) rfl; clear a0 a1 a2 hr; clear hb)
                | (go_at_call 23; (with_reducible refine (K23.out _).mono ?_); rintro e w5 ⟨rfl, hb⟩; have B5 := Lib.hid (B4.out.trans (hb.mono B4.out.size)); have R5 := Lib.hid (R4.out.below hb); have X5 := Lib.hid (X4.out.below hb); have a0 := X5.out.cell (i := 0) rfl; have a1 := X5.out.cell (i := 1) rfl; have a2 := X5.out.cell (i := 2) rfl; clear b0 b1 b2; clear hb)
                | (go_at_call 12; (with_reducible refine (live12 _).mono ?_); rintro e w6 ⟨rfl, hb⟩; have B6 := Lib.hid (B5.out.trans (hb.mono B5.out.size)); clear hb))
              go_ret
              exact ⟨rfl, B6.out⟩
            · rw [hS, err_t] at K23
              obtain ⟨z1, z2⟩ := bd_again hc2 (by omega) hE hS
              have C2 := Lib.hid (fun v A' c' (hr : Rcs v A' (bd zs a b c).1.length c' (bd zs a b c).1) => bind16 A' _ c' _ a b d v hr (by omega) (Nat.le_trans hg.1 (by decide)) (Nat.le_trans hg.2.1 (by decide)) (by omega))
              have C3 := Lib.hid (fun v A' c' (hr : Rcs v A' (bd zs a b c).1.length c' (bd zs a b c).1) => check19 A' _ c' _ v hr LSh (by omega))
              unfold BdP at C2
              rw [z2] at C2
              rw [z1] at C3
              have LB := Lib.hid (show (bd zs a b c).1.length ≤ 1000000 by omega)
              clear z1 z2
              generalize bd zs a b c = X at C1 C2 C3 LB hE LBd LSh
              obtain ⟨L, U, E⟩ := X
              simp only at hE
              subst hE
              unfold BdX at C1 C2
              simp only at C1 C2 C3 LB
              clear hg h hn hsh hs5 hc hc2 hl LBd LSh hS
              go_enter Try.func8, Try.ntmps8
              go_wp2_with (first
                | (go_at_call 15; (with_reducible refine (G15.out _ B0.out).mono ?_); rintro e w1 ⟨rfl, hb⟩; have B1 := Lib.hid (B0.out.trans (hb.mono B0.out.size)); have X1 := Lib.hid (X0.out.below hb); have a0 := X1.out.cell (i := 0) rfl; have a1 := X1.out.cell (i := 1) rfl; have a2 := X1.out.cell (i := 2) rfl; clear hb)
                | (go_at_call 9; (with_reducible refine (G9.out _).mono ?_); rintro e w2 ⟨rfl, hb⟩; have B2 := Lib.hid (B1.out.trans (hb.mono B1.out.size)); have X2 := Lib.hid (X1.out.below hb); have b0 := X2.out.cell (i := 0) rfl; have b1 := X2.out.cell (i := 1) rfl; have b2 := X2.out.cell (i := 2) rfl; clear a0 a1 a2; clear hb)
                | (go_at_call 12; (with_reducible refine (live12 _).mono ?_); rintro e w9 ⟨rfl, hb⟩; have B9 := Lib.hid (B8.out.trans (hb.mono B8.out.size)); clear hb)
                | (go_at_call 18; (with_reducible refine (same18 A4 A6 c4 c6 L _ R7.out T7.out LB.out).mono ?_); rintro e w8 ⟨rfl, hb⟩; have B8 := Lib.hid (B7.out.trans (hb.mono B7.out.size)); clear hb)
                | (go_at_call 19; (with_reducible refine (C3.out _ A4 c4 R6.out).mono ?_); rintro e w7 ⟨rfl, hb⟩; have B7 := Lib.hid (B6.out.trans (hb.mono B6.out.size)); have R7 := Lib.hid (R6.out.below hb); have T7 := Lib.hid (T6.out.below hb); clear hb)
                | (go_at_call 19; (with_reducible refine (K19.out _ B2.out).mono ?_); rintro e w3 ⟨rfl, hb⟩; have B3 := Lib.hid (B2.out.trans (hb.mono B2.out.size)); have X3 := Lib.hid (X2.out.below hb); have a0 := X3.out.cell (i := 0) rfl; have a1 := X3.out.cell (i := 1) rfl; have a2 := X3.out.cell (i := 2) rfl; clear b0 b1 b2; clear hb)
                | (go_at_call 16; (with_reducible refine (C2.out _ A4 c4 R5.out).mono ?_); rintro e w6 ⟨A6, c6, rfl, hr, hb⟩; have B6 := Lib.hid (B5.out.trans (hb.mono B5.out.size)); have R6 := Lib.hid (R5.out.below hb); have T6 := Lib.hid hr; clear a0 a1 a2 hr; clear hb)
                | (go_at_call 16; (with_reducible refine (C1.out _ B3.out).mono ?_); rintro e w4 ⟨A4, c4, rfl, hr, hb⟩; have B4 := Lib.hid (B3.out.trans (hb.mono B3.out.size)); have R4 := Lib.hid hr; have X4 := Lib.hid (X3.out.below hb); have b0 := X4.out.cell (i := 0) rfl; have b1 := X4.out.cell (i := 1) rfl; have b2 := X4.out.cell (i := 2) rfl; clear a0 a1 a2 hr; clear hb)
                | (go_at_call 23; (with_reducible refine (K23.out _).mono ?_); rintro e w5 ⟨rfl, hb⟩; have B5 := Lib.hid (B4.out.trans (hb.mono B4.out.size)); have R5 := Lib.hid (R4.out.below hb); have X5 := Lib.hid (X4.out.below hb); have a0 := X5.out.cell (i := 0) rfl; have a1 := X5.out.cell (i := 1) rfl; have a2 := X5.out.cell (i := 2) rfl; clear b0 b1 b2; clear hb))
              go_ret
              exact ⟨rfl, B9.out⟩
          · have hne : ((bd zs a b c).2.2 != 0) = true := by simpa using hE
            generalize bd zs a b c = X at C1 hE LBd LSh hne
            obtain ⟨L, U, E⟩ := X
            simp only at hE hne
            unfold BdX at C1
            simp only at C1
            clear hg h hn hsh hs5 hc hc2 hl LBd LSh
            go_enter Try.func8, Try.ntmps8
            go_wp2_with (first
              | (go_at_call 15; (with_reducible refine (G15.out _ B0.out).mono ?_); rintro e w1 ⟨rfl, hb⟩; have B1 := Lib.hid (B0.out.trans (hb.mono B0.out.size)); have X1 := Lib.hid (X0.out.below hb); have a0 := X1.out.cell (i := 0) rfl; have a1 := X1.out.cell (i := 1) rfl; have a2 := X1.out.cell (i := 2) rfl; clear hb)
              | (go_at_call 9; (with_reducible refine (G9.out _).mono ?_); rintro e w2 ⟨rfl, hb⟩; have B2 := Lib.hid (B1.out.trans (hb.mono B1.out.size)); have X2 := Lib.hid (X1.out.below hb); have b0 := X2.out.cell (i := 0) rfl; have b1 := X2.out.cell (i := 1) rfl; have b2 := X2.out.cell (i := 2) rfl; clear a0 a1 a2; clear hb)
              | (go_at_call 19; (with_reducible refine (K19.out _ B2.out).mono ?_); rintro e w3 ⟨rfl, hb⟩; have B3 := Lib.hid (B2.out.trans (hb.mono B2.out.size)); have X3 := Lib.hid (X2.out.below hb); have a0 := X3.out.cell (i := 0) rfl; have a1 := X3.out.cell (i := 1) rfl; have a2 := X3.out.cell (i := 2) rfl; clear b0 b1 b2; clear hb)
              | (go_at_call 16; (with_reducible refine (C1.out _ B3.out).mono ?_); rintro e w4 ⟨A4, c4, rfl, hr, hb⟩; have B4 := Lib.hid (B3.out.trans (hb.mono B3.out.size)); have R4 := Lib.hid hr; have X4 := Lib.hid (X3.out.below hb); have b0 := X4.out.cell (i := 0) rfl; have b1 := X4.out.cell (i := 1) rfl; have b2 := X4.out.cell (i := 2) rfl; clear a0 a1 a2 hr; clear hb)
              | (go_at_call 12; (with_reducible refine (live12 _).mono ?_); rintro e w5 ⟨rfl, hb⟩; have B5 := Lib.hid (B4.out.trans (hb.mono B4.out.size)); clear hb))
            go_ret
            exact ⟨rfl, B5.out⟩
        · have hne : (chkC zs n != 0) = true := by simpa using hc
          generalize chkC zs n = r at K19 hne hc
          clear hg h hn hsh hs5
          go_enter Try.func8, Try.ntmps8
          go_wp2_with (first
            | (go_at_call 15; (with_reducible refine (G15.out _ B0.out).mono ?_); rintro e w1 ⟨rfl, hb⟩; have B1 := Lib.hid (B0.out.trans (hb.mono B0.out.size)); have X1 := Lib.hid (X0.out.below hb); have a0 := X1.out.cell (i := 0) rfl; have a1 := X1.out.cell (i := 1) rfl; have a2 := X1.out.cell (i := 2) rfl; clear hb)
            | (go_at_call 9; (with_reducible refine (G9.out _).mono ?_); rintro e w2 ⟨rfl, hb⟩; have B2 := Lib.hid (B1.out.trans (hb.mono B1.out.size)); have X2 := Lib.hid (X1.out.below hb); have b0 := X2.out.cell (i := 0) rfl; have b1 := X2.out.cell (i := 1) rfl; have b2 := X2.out.cell (i := 2) rfl; clear a0 a1 a2; clear hb)
            | (go_at_call 19; (with_reducible refine (K19.out _ B2.out).mono ?_); rintro e w3 ⟨rfl, hb⟩; have B3 := Lib.hid (B2.out.trans (hb.mono B2.out.size)); have X3 := Lib.hid (X2.out.below hb); have a0 := X3.out.cell (i := 0) rfl; have a1 := X3.out.cell (i := 1) rfl; have a2 := X3.out.cell (i := 2) rfl; clear b0 b1 b2; clear hb)
            | (go_at_call 12; (with_reducible refine (live12 _).mono ?_); rintro e w4 ⟨rfl, hb⟩; have B4 := Lib.hid (B3.out.trans (hb.mono B3.out.size)); clear hb))
          go_ret
          exact ⟨rfl, B4.out⟩
    · rw [decide_eq_false hg] at G9
      clear hg h hn hsh
      go_enter Try.func8, Try.ntmps8
      go_wp2_with (first
        | (go_at_call 15; (with_reducible refine (G15.out _ B0.out).mono ?_); rintro e w1 ⟨rfl, hb⟩; have B1 := Lib.hid (B0.out.trans (hb.mono B0.out.size)); have X1 := Lib.hid (X0.out.below hb); have a0 := X1.out.cell (i := 0) rfl; have a1 := X1.out.cell (i := 1) rfl; have a2 := X1.out.cell (i := 2) rfl; clear hb)
        | (go_at_call 9; (with_reducible refine (G9.out _).mono ?_); rintro e w2 ⟨rfl, hb⟩; have B2 := Lib.hid (B1.out.trans (hb.mono B1.out.size)); have X2 := Lib.hid (X1.out.below hb); have b0 := X2.out.cell (i := 0) rfl; have b1 := X2.out.cell (i := 1) rfl; have b2 := X2.out.cell (i := 2) rfl; clear a0 a1 a2; clear hb)
        | (go_at_call 12; (with_reducible refine (live12 _).mono ?_); rintro e w3 ⟨rfl, hb⟩; have B3 := Lib.hid (B2.out.trans (hb.mono B2.out.size)); clear hb))
      go_ret
      exact ⟨rfl, B3.out⟩
  · rw [hL] at G15
    clear hL h
    go_enter Try.func8, Try.ntmps8
    go_wp2_with (first
      | (go_at_call 15; (with_reducible refine (G15.out _ B0.out).mono ?_); rintro e w1 ⟨rfl, hb⟩; have B1 := Lib.hid (B0.out.trans (hb.mono B0.out.size)); have X1 := Lib.hid (X0.out.below hb); have a0 := X1.out.cell (i := 0) rfl; have a1 := X1.out.cell (i := 1) rfl; have a2 := X1.out.cell (i := 2) rfl; clear hb)
      | (go_at_call 12; (with_reducible refine (live12 _).mono ?_); rintro e w2 ⟨rfl, hb⟩; have B2 := Lib.hid (B1.out.trans (hb.mono B1.out.size)); clear hb))
    go_ret
    exact ⟨rfl, B2.out⟩
end Go.Proofs.Ytkcceobncjoodaa
