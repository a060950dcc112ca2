/- Identities of other networks: the walks of BridgeUsers, BridgeBacks, BridgeBinds. -/
import Derived.Test.YtkcceobncjoodaaV5
namespace Go.Proofs.Ytkcceobncjoodaa
open Go.RowKit
set_option linter.unusedVariables false
set_option linter.unusedSimpArgs false

theorem insQ_len (q : Rc → Bool) (x : Rc) (zs : List Rc) : (insQ q x zs).length = zs.length + 1 := by
  unfold insQ
  have h : zs.findIdx q ≤ zs.length := List.findIdx_le_length
  simp
  omega
theorem bd_len (zs : List Rc) (a b c : ByteArray) : (bd zs a b c).1.length ≤ zs.length + 1 := by
  unfold bd
  split
  · simp
  · split
    · simp
    · split
      · simp
      · simp only
        rw [insQ_len]
        exact Nat.le_refl _
set_option maxRecDepth 100000 in
set_option maxHeartbeats 4000000 in
theorem users_walk (a b c : ByteArray) (w : World) : Calls Try.prog 3 #[.agg #[.string a, .string b, .string c]] w fun e w' => e = .returned (.bool true) ∧ Below w.heap.size w w' := by
  have B0 := Lib.hid ((Below.refl w.heap.size w).alloc (Nat.le_refl _) (.cells #[.string a, .string b, .string c] 23))
  have X0 := Lib.hid (show Blk (w.alloc (.cells #[.string a, .string b, .string c] 23)) w.heap.size [.string a, .string b, .string c] 23 from blk_new w [.string a, .string b, .string c] 23)
  have G9 := Lib.hid (fun v => great9 a b c v)
  by_cases hg : sh1 ⟨a, b, c⟩
  · rw [decide_eq_true hg] at G9
    have C1 := Lib.hid (fun v => user10 a b c (Nat.le_trans hg.1 (by decide)) (Nat.le_trans hg.2.1 (by decide)) (Nat.le_trans hg.2.2 (by decide)) v)
    have C2 := Lib.hid (fun v => ruser11 a b c (Nat.le_trans hg.1 (by decide)) (Nat.le_trans hg.2.1 (by decide)) (Nat.le_trans hg.2.2 (by decide)) v)
    unfold UsP at C1 C2
    generalize usS a b c = S at C1 C2
    generalize usE a b c = E at C1 C2
    clear hg
    go_enter Try.func3, Try.ntmps3
    go_wp2_with (first
      | (go_at_call 9; (with_reducible refine (G9.out _).mono ?_); rintro e w1 ⟨rfl, hb⟩; have B1 := Lib.hid (B0.out.trans (hb.mono B0.out.size)); have X1 := Lib.hid (X0.out.below hb); have a0 := X1.out.cell (i := 0) rfl; have a1 := X1.out.cell (i := 1) rfl; have a2 := X1.out.cell (i := 2) rfl; clear hb)
      | (go_at_call 10; (with_reducible refine (C1.out _).mono ?_); rintro e w2 ⟨rfl, hb⟩; have B2 := Lib.hid (B1.out.trans (hb.mono B1.out.size)); have X2 := Lib.hid (X1.out.below hb); have b0 := X2.out.cell (i := 0) rfl; have b1 := X2.out.cell (i := 1) rfl; have b2 := X2.out.cell (i := 2) rfl; clear a0 a1 a2; clear hb)
      | (go_at_call 11; (with_reducible refine (C2.out _).mono ?_); rintro e w3 ⟨rfl, hb⟩; have B3 := Lib.hid (B2.out.trans (hb.mono B2.out.size)); clear hb)
      | (go_at_call 12; (with_reducible refine (live12 _).mono ?_); rintro e w4 ⟨rfl, hb⟩; have B4 := Lib.hid (B3.out.trans (hb.mono B3.out.size)); clear hb))
    go_ret
    exact ⟨rfl, B4.out⟩
  · rw [decide_eq_false hg] at G9
    clear hg
    go_enter Try.func3, Try.ntmps3
    go_wp2_with (first
      | (go_at_call 9; (with_reducible refine (G9.out _).mono ?_); rintro e w1 ⟨rfl, hb⟩; have B1 := Lib.hid (B0.out.trans (hb.mono B0.out.size)); clear hb))
    go_ret
    exact ⟨rfl, B1.out⟩
set_option maxRecDepth 100000 in
set_option maxHeartbeats 4000000 in
theorem backs_walk (s : ByteArray) (w : World) : Calls Try.prog 4 #[.string s] w fun e w' => e = .returned (.bool true) ∧ Below w.heap.size w w' := by
  have B0 := Lib.hid (Below.refl w.heap.size w)
  by_cases hg : (200 : Int) < (s.size : Int)
  · go_enter Try.func4, Try.ntmps4
    go_wp2
    go_ret
    exact ⟨rfl, B0.out⟩
  · have C1 := Lib.hid (fun v => back13 s (by omega) v)
    have C2 := Lib.hid (fun v => rback14 s (by omega) v)
    unfold BkP at C1 C2
    generalize bkN s = X at C1 C2
    generalize bkM s = Y at C1 C2
    generalize bkE s = E at C1 C2
    go_enter Try.func4, Try.ntmps4
    go_wp2_with (first
      | (go_at_call 13; (with_reducible refine (C1.out _).mono ?_); rintro e w1 ⟨rfl, hb⟩; have B1 := Lib.hid (B0.out.trans (hb.mono B0.out.size)); clear hb)
      | (go_at_call 14; (with_reducible refine (C2.out _).mono ?_); rintro e w2 ⟨rfl, hb⟩; have B2 := Lib.hid (B1.out.trans (hb.mono B1.out.size)); clear hb)
      | (go_at_call 12; (with_reducible refine (live12 _).mono ?_); rintro e w3 ⟨rfl, hb⟩; have B3 := Lib.hid (B2.out.trans (hb.mono B2.out.size)); clear hb))
    go_ret
    exact ⟨rfl, B3.out⟩
set_option maxRecDepth 100000 in
set_option maxHeartbeats 8000000 in
theorem binds_walk (A : Option Addr) (n k : Nat) (zs : List Rc) (a b c : ByteArray) (w : World) (h : Rcs w A n k zs) : Calls Try.prog 5 #[.slice A n k, .agg #[.string a, .string b, .string c]] w fun e w' => e = .returned (.bool true) ∧ Below w.heap.size w w' := by
  have B0 := Lib.hid ((Below.refl w.heap.size w).alloc (Nat.le_refl _) (.cells #[.string a, .string b, .string c] 23))
  have X0 := Lib.hid (show Blk (w.alloc (.cells #[.string a, .string b, .string c] 23)) w.heap.size [.string a, .string b, .string c] 23 from blk_new w [.string a, .string b, .string c] 23)
  have H := Lib.hid h
  have G15 := Lib.hid (fun v (hb : Below w.heap.size w v) => great15 A n k zs 210 (by decide) v (h.below hb))
  have G9 := Lib.hid (fun v => great9 a b c v)
  cases hL : grL zs n 210
  · rw [hL] at G15
    obtain ⟨hn, hsh⟩ := grL_no hL
    clear hL
    by_cases hg : sh1 ⟨a, b, c⟩
    · rw [decide_eq_true hg] at G9
      have hn2 : n ≤ 210 := by omega
      have C1 := Lib.hid (fun v (hb : Below w.heap.size w v) => bind16 A n k zs a b c v (h.below hb) (by omega) (Nat.le_trans hg.1 (by decide)) (Nat.le_trans hg.2.1 (by decide)) (Nat.le_trans hg.2.2 (by decide)))
      have C2 := Lib.hid (fun v (hb : Below w.heap.size w v) => rbind17 A n k zs a b c v (h.below hb) (by omega) (Nat.le_trans hg.1 (by decide)) (Nat.le_trans hg.2.1 (by decide)) (Nat.le_trans hg.2.2 (by decide)))
      have hs5 : Sh 100000 zs := fun p hp => ⟨Nat.le_trans (hsh p hp).1 (by decide), Nat.le_trans (hsh p hp).2.1 (by decide), Nat.le_trans (hsh p hp).2.2 (by decide)⟩
      have C3 := Lib.hid (fun v (hb : Below w.heap.size w v) => check19 A n k zs v (h.below hb) hs5 (by omega))
      have C4 := Lib.hid (fun v (hb : Below w.heap.size w v) => rcheck20 A n k zs v (h.below hb) hs5 (by omega))
      unfold BdP at C1 C2
      have LB := Lib.hid (show (bd zs a b c).1.length ≤ 1000000 by have := bd_len zs a b c; have h9 := H.out.len; omega)
      generalize bd zs a b c = X at C1 C2 LB
      obtain ⟨L, U, E⟩ := X
      generalize chkC zs n = r at C3 C4
      clear h hg hs5 hn hsh hn2
      unfold BdX at C1 C2
      simp only at C1 C2 LB
      go_enter Try.func5, Try.ntmps5
      go_wp2_with (first
        | (go_at_call 15; (with_reducible refine (G15.out _ B0.out).mono ?_); rintro e w1 ⟨rfl, hb⟩; have B1 := Lib.hid (B0.out.trans (hb.mono B0.out.size)); have X1 := Lib.hid (X0.out.below hb); have a0 := X1.out.cell (i := 0) rfl; have a1 := X1.out.cell (i := 1) rfl; have a2 := X1.out.cell (i := 2) rfl; clear hb)
        | (go_at_call 9; (with_reducible refine (G9.out _).mono ?_); rintro e w2 ⟨rfl, hb⟩; have B2 := Lib.hid (B1.out.trans (hb.mono B1.out.size)); have X2 := Lib.hid (X1.out.below hb); have b0 := X2.out.cell (i := 0) rfl; have b1 := X2.out.cell (i := 1) rfl; have b2 := X2.out.cell (i := 2) rfl; clear a0 a1 a2; clear hb)
        | (go_at_call 16; (with_reducible refine (C1.out _ B2.out).mono ?_); rintro e w3 ⟨A3, c3, rfl, hr, hb⟩; have B3 := Lib.hid (B2.out.trans (hb.mono B2.out.size)); have R3 := Lib.hid hr; have X3 := Lib.hid (X2.out.below hb); have d0 := X3.out.cell (i := 0) rfl; have d1 := X3.out.cell (i := 1) rfl; have d2 := X3.out.cell (i := 2) rfl; clear b0 b1 b2 hr; clear hb)
        | (go_at_call 17; (with_reducible refine (C2.out _ B3.out).mono ?_); rintro e w4 ⟨A4, c4, rfl, hr, hb⟩; have B4 := Lib.hid (B3.out.trans (hb.mono B3.out.size)); have R4 := Lib.hid hr; have R3b := Lib.hid (R3.out.below hb); clear d0 d1 d2 hr; clear hb)
        | (go_at_call 18; (with_reducible refine (same18 A3 A4 c3 c4 L _ R3b.out R4.out LB.out).mono ?_); rintro e w5 ⟨rfl, hb⟩; have B5 := Lib.hid (B4.out.trans (hb.mono B4.out.size)); clear hb)
        | (go_at_call 19; (with_reducible refine (C3.out _ B5.out).mono ?_); rintro e w6 ⟨rfl, hb⟩; have B6 := Lib.hid (B5.out.trans (hb.mono B5.out.size)); clear hb)
        | (go_at_call 20; (with_reducible refine (C4.out _ B6.out).mono ?_); rintro e w7 ⟨rfl, hb⟩; have B7 := Lib.hid (B6.out.trans (hb.mono B6.out.size)); clear hb)
        | (go_at_call 12; (with_reducible refine (live12 _).mono ?_); rintro e w8 ⟨rfl, hb⟩; have B8 := Lib.hid (B7.out.trans (hb.mono B7.out.size)); clear hb))
      go_ret
      exact ⟨rfl, B8.out⟩
    · rw [decide_eq_false hg] at G9
      clear hg h hn hsh
      go_enter Try.func5, Try.ntmps5
      go_wp2_with (first
        | (go_at_call 15; (with_reducible refine (G15.out _ B0.out).mono ?_); rintro e w1 ⟨rfl, hb⟩; have B1 := Lib.hid (B0.out.trans (hb.mono B0.out.size)); have X1 := Lib.hid (X0.out.below hb); have a0 := X1.out.cell (i := 0) rfl; have a1 := X1.out.cell (i := 1) rfl; have a2 := X1.out.cell (i := 2) rfl; clear hb)
        | (go_at_call 9; (with_reducible refine (G9.out _).mono ?_); rintro e w2 ⟨rfl, hb⟩; have B2 := Lib.hid (B1.out.trans (hb.mono B1.out.size)); clear hb))
      go_ret
      exact ⟨rfl, B2.out⟩
  · rw [hL] at G15
    clear hL h
    go_enter Try.func5, Try.ntmps5
    go_wp2_with (first
      | (go_at_call 15; (with_reducible refine (G15.out _ B0.out).mono ?_); rintro e w1 ⟨rfl, hb⟩; have B1 := Lib.hid (B0.out.trans (hb.mono B0.out.size)); clear hb))
    go_ret
    exact ⟨rfl, B1.out⟩
end Go.Proofs.Ytkcceobncjoodaa
