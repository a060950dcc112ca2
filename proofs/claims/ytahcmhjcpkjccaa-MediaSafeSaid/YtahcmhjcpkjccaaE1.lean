/- Media: great; the examples of the chapter. No condition. -/
import Derived.Test.YtahcmhjcpkjccaaD2
namespace Go.Proofs.Ytahcmhjcpkjccaa
open Go.RowKit
set_option linter.unusedVariables false
set_option linter.unusedSimpArgs false

theorem great_no (A : Option Addr) (n c : Nat) (w : World) (hn : n ≤ 50) : Calls Try.prog 9 #[.slice A n c] w fun e w' => e = .returned (.bool false) ∧ w = w' := by
  have h0 : ¬ (50 : Int) < (n : Int) := by omega
  go_enter Try.func9, Try.ntmps9
  go_wp2
  go_ret
  exact ⟨rfl, rfl⟩
theorem great_yes (A : Option Addr) (n c : Nat) (w : World) (hn : ¬ n ≤ 50) : Calls Try.prog 9 #[.slice A n c] w fun e w' => e = .returned (.bool true) ∧ w = w' := by
  have h0 : (50 : Int) < (n : Int) := by omega
  go_enter Try.func9, Try.ntmps9
  go_wp2
  go_ret
  exact ⟨rfl, rfl⟩
def One (u : World) (p : Rc) (r : Int) (e : Ending) (w' : World) : Prop := ∃ A c, e = .returned (.tuple #[.slice A 1 c, .int .i64 r]) ∧ Rcs w' A 1 c [p] ∧ Below u.heap.size u w'
def OneL (u : World) (p : Rc) (e : Ending) (w' : World) : Prop := ∃ A c, e = .returned (.slice A 1 c) ∧ Rcs w' A 1 c [p] ∧ Below u.heap.size u w'
theorem aw1 (w : World) : Calls Try.prog 23 #[.slice none 0 0, .string ⟨#[97]⟩, .string ⟨#[98]⟩, .string ⟨#[99, 97, 116]⟩, .int .i64 7, .int .i64 100] w (One w (⟨⟨#[98]⟩, ⟨#[99, 97, 116]⟩, 7, 100, 1⟩ : Rc) 0) :=
  (fetch23 none 0 0 [] ⟨#[97]⟩ ⟨#[98]⟩ ⟨#[99, 97, 116]⟩ 7 100 w (Rcs.nil w) (by decide) (by decide) (by omega)).mono fun e w' ⟨A, c, he, hr, hb⟩ => by
    rw [show fetL [] ⟨#[97]⟩ ⟨#[98]⟩ ⟨#[99, 97, 116]⟩ 7 100 = [(⟨⟨#[98]⟩, ⟨#[99, 97, 116]⟩, 7, 100, 1⟩ : Rc)] by kernel_rfl] at he hr
    rw [show fetE [] ⟨#[97]⟩ ⟨#[98]⟩ ⟨#[99, 97, 116]⟩ 7 100 = 0 by kernel_rfl] at he
    exact ⟨A, c, he, hr, hb⟩
theorem aw2 (A : Option Addr) (c : Nat) (w : World) (h : Rcs w A 1 c [(⟨⟨#[98]⟩, ⟨#[99, 97, 116]⟩, 7, 100, 1⟩ : Rc)]) : Calls Try.prog 25 #[.slice A 1 c, .string ⟨#[97]⟩, .int .i64 150, .int .i64 50] w (OneL w (⟨⟨#[98]⟩, ⟨#[99, 97, 116]⟩, 7, 100, 1⟩ : Rc)) :=
  (expire25 A 1 c [(⟨⟨#[98]⟩, ⟨#[99, 97, 116]⟩, 7, 100, 1⟩ : Rc)] ⟨#[97]⟩ 150 50 w h (by omega) (by omega)).mono fun e w' ⟨A, c, he, hr, hb⟩ => by
    rw [show pexpL [(⟨⟨#[98]⟩, ⟨#[99, 97, 116]⟩, 7, 100, 1⟩ : Rc)] ⟨#[97]⟩ 150 50 = [(⟨⟨#[98]⟩, ⟨#[99, 97, 116]⟩, 7, 100, 1⟩ : Rc)] by kernel_rfl] at he hr
    exact ⟨A, c, he, hr, hb⟩
theorem aw3 (A : Option Addr) (c : Nat) (w : World) (h : Rcs w A 1 c [(⟨⟨#[98]⟩, ⟨#[99, 97, 116]⟩, 7, 100, 1⟩ : Rc)]) : Calls Try.prog 25 #[.slice A 1 c, .string ⟨#[97]⟩, .int .i64 151, .int .i64 50] w (OneL w (⟨⟨#[98]⟩, ⟨#[99, 97, 116]⟩, 7, 100, 3⟩ : Rc)) :=
  (expire25 A 1 c [(⟨⟨#[98]⟩, ⟨#[99, 97, 116]⟩, 7, 100, 1⟩ : Rc)] ⟨#[97]⟩ 151 50 w h (by omega) (by omega)).mono fun e w' ⟨A, c, he, hr, hb⟩ => by
    rw [show pexpL [(⟨⟨#[98]⟩, ⟨#[99, 97, 116]⟩, 7, 100, 1⟩ : Rc)] ⟨#[97]⟩ 151 50 = [(⟨⟨#[98]⟩, ⟨#[99, 97, 116]⟩, 7, 100, 3⟩ : Rc)] by kernel_rfl] at he hr
    exact ⟨A, c, he, hr, hb⟩
theorem aw4 (A : Option Addr) (c : Nat) (w : World) (h : Rcs w A 1 c [(⟨⟨#[98]⟩, ⟨#[99, 97, 116]⟩, 7, 100, 3⟩ : Rc)]) : Calls Try.prog 23 #[.slice A 1 c, .string ⟨#[97]⟩, .string ⟨#[98]⟩, .string ⟨#[99, 97, 116]⟩, .int .i64 8, .int .i64 200] w (One w (⟨⟨#[98]⟩, ⟨#[99, 97, 116]⟩, 8, 200, 1⟩ : Rc) 0) :=
  (fetch23 A 1 c [(⟨⟨#[98]⟩, ⟨#[99, 97, 116]⟩, 7, 100, 3⟩ : Rc)] ⟨#[97]⟩ ⟨#[98]⟩ ⟨#[99, 97, 116]⟩ 8 200 w h (by decide) (by decide) (by omega)).mono fun e w' ⟨A, c, he, hr, hb⟩ => by
    rw [show fetL [(⟨⟨#[98]⟩, ⟨#[99, 97, 116]⟩, 7, 100, 3⟩ : Rc)] ⟨#[97]⟩ ⟨#[98]⟩ ⟨#[99, 97, 116]⟩ 8 200 = [(⟨⟨#[98]⟩, ⟨#[99, 97, 116]⟩, 8, 200, 1⟩ : Rc)] by kernel_rfl] at he hr
    rw [show fetE [(⟨⟨#[98]⟩, ⟨#[99, 97, 116]⟩, 7, 100, 3⟩ : Rc)] ⟨#[97]⟩ ⟨#[98]⟩ ⟨#[99, 97, 116]⟩ 8 200 = 0 by kernel_rfl] at he
    exact ⟨A, c, he, hr, hb⟩
theorem aw5 (w : World) : Calls Try.prog 21 #[.slice none 0 0, .string ⟨#[98]⟩, .string ⟨#[120]⟩] w (OneL w (⟨⟨#[98]⟩, ⟨#[120]⟩, 0, 0, 2⟩ : Rc)) :=
  (quar21 none 0 0 [] ⟨#[98]⟩ ⟨#[120]⟩ w (Rcs.nil w) (by decide) (by decide) (by omega)).mono fun e w' ⟨A, c, he, hr, hb, _⟩ => by
    rw [show quarL [] ⟨#[98]⟩ ⟨#[120]⟩ = [(⟨⟨#[98]⟩, ⟨#[120]⟩, 0, 0, 2⟩ : Rc)] by kernel_rfl] at he hr
    exact ⟨A, c, he, hr, hb⟩
theorem aw6 (A : Option Addr) (c : Nat) (w : World) (h : Rcs w A 1 c [(⟨⟨#[98]⟩, ⟨#[120]⟩, 0, 0, 2⟩ : Rc)]) : Calls Try.prog 23 #[.slice A 1 c, .string ⟨#[97]⟩, .string ⟨#[98]⟩, .string ⟨#[120]⟩, .int .i64 1, .int .i64 1] w fun e w' => (∃ A c, e = .returned (.tuple #[.slice A 0 c, .int .i64 27])) ∧ Below w.heap.size w w' :=
  (fetch23 A 1 c [(⟨⟨#[98]⟩, ⟨#[120]⟩, 0, 0, 2⟩ : Rc)] ⟨#[97]⟩ ⟨#[98]⟩ ⟨#[120]⟩ 1 1 w h (by decide) (by decide) (by omega)).mono fun e w' ⟨A, c, he, hr, hb⟩ => by
    rw [show fetL [(⟨⟨#[98]⟩, ⟨#[120]⟩, 0, 0, 2⟩ : Rc)] ⟨#[97]⟩ ⟨#[98]⟩ ⟨#[120]⟩ 1 1 = [] by kernel_rfl] at he hr
    rw [show fetE [(⟨⟨#[98]⟩, ⟨#[120]⟩, 0, 0, 2⟩ : Rc)] ⟨#[97]⟩ ⟨#[98]⟩ ⟨#[120]⟩ 1 1 = 27 by kernel_rfl] at he
    exact ⟨⟨A, c, he⟩, hb⟩
theorem aw7 (w : World) : Calls Try.prog 23 #[.slice none 0 0, .string ⟨#[97]⟩, .string ⟨#[97]⟩, .string ⟨#[120]⟩, .int .i64 1, .int .i64 1] w fun e w' => (∃ A c, e = .returned (.tuple #[.slice A 0 c, .int .i64 5])) ∧ Below w.heap.size w w' :=
  (fetch23 none 0 0 [] ⟨#[97]⟩ ⟨#[97]⟩ ⟨#[120]⟩ 1 1 w (Rcs.nil w) (by decide) (by decide) (by omega)).mono fun e w' ⟨A, c, he, hr, hb⟩ => by
    rw [show fetL [] ⟨#[97]⟩ ⟨#[97]⟩ ⟨#[120]⟩ 1 1 = [] by kernel_rfl] at he hr
    rw [show fetE [] ⟨#[97]⟩ ⟨#[97]⟩ ⟨#[120]⟩ 1 1 = 5 by kernel_rfl] at he
    exact ⟨⟨A, c, he⟩, hb⟩
theorem aw8 (w : World) : Calls Try.prog 18 #[.slice none 0 0, .agg #[.string ⟨#[98]⟩, .string ⟨#[99]⟩, .int .i64 0, .int .i64 0, .int .i64 0]] w (One w (⟨⟨#[98]⟩, ⟨#[99]⟩, 0, 0, 0⟩ : Rc) 0) :=
  (add18 none 0 0 [] (⟨⟨#[98]⟩, ⟨#[99]⟩, 0, 0, 0⟩ : Rc) w (Rcs.nil w) (by unfold fitR; decide) (by omega)).mono fun e w' ⟨A, c, he, hr, hb⟩ => by
    rw [show addL [] (⟨⟨#[98]⟩, ⟨#[99]⟩, 0, 0, 0⟩ : Rc) = [(⟨⟨#[98]⟩, ⟨#[99]⟩, 0, 0, 0⟩ : Rc)] by kernel_rfl] at he hr
    rw [show addE [] (⟨⟨#[98]⟩, ⟨#[99]⟩, 0, 0, 0⟩ : Rc) = 0 by kernel_rfl] at he
    exact ⟨A, c, he, hr, hb⟩
theorem aw9 (A : Option Addr) (c : Nat) (w : World) (h : Rcs w A 1 c [(⟨⟨#[98]⟩, ⟨#[99, 97, 116]⟩, 7, 100, 3⟩ : Rc)]) : Calls Try.prog 11 #[.slice A 1 c, .string ⟨#[98]⟩, .string ⟨#[99, 97, 116]⟩] w fun e w' => e = .returned (.tuple #[.agg #[.string ⟨#[98]⟩, .string ⟨#[99, 97, 116]⟩, .int .i64 7, .int .i64 100, .int .i64 3], .bool true]) ∧ Below w.heap.size w w' :=
  get11_lit A 1 c [(⟨⟨#[98]⟩, ⟨#[99, 97, 116]⟩, 7, 100, 3⟩ : Rc)] ⟨#[98]⟩ ⟨#[99, 97, 116]⟩ w h (⟨⟨#[98]⟩, ⟨#[99, 97, 116]⟩, 7, 100, 3⟩ : Rc) true (by kernel_rfl)
theorem aw10 (A : Option Addr) (c : Nat) (w : World) (h : Rcs w A 1 c [(⟨⟨#[98]⟩, ⟨#[99, 97, 116]⟩, 7, 100, 1⟩ : Rc)]) : Calls Try.prog 15 #[.slice A 1 c] w fun e w' => e = .returned (.int .i64 7) ∧ Below w.heap.size w w' :=
  (total15 A 1 c [(⟨⟨#[98]⟩, ⟨#[99, 97, 116]⟩, 7, 100, 1⟩ : Rc)] w h (by omega)).mono fun e w' ⟨he, hb⟩ => by
    rw [show totR [(⟨⟨#[98]⟩, ⟨#[99, 97, 116]⟩, 7, 100, 1⟩ : Rc)] 1 = 7 by kernel_rfl] at he
    exact ⟨he, hb⟩
theorem aw11 (A : Option Addr) (c : Nat) (w : World) (h : Rcs w A 1 c [(⟨⟨#[98]⟩, ⟨#[99, 97, 116]⟩, 8, 200, 1⟩ : Rc)]) : Calls Try.prog 15 #[.slice A 1 c] w fun e w' => e = .returned (.int .i64 8) ∧ Below w.heap.size w w' :=
  (total15 A 1 c [(⟨⟨#[98]⟩, ⟨#[99, 97, 116]⟩, 8, 200, 1⟩ : Rc)] w h (by omega)).mono fun e w' ⟨he, hb⟩ => by
    rw [show totR [(⟨⟨#[98]⟩, ⟨#[99, 97, 116]⟩, 8, 200, 1⟩ : Rc)] 1 = 8 by kernel_rfl] at he
    exact ⟨he, hb⟩
theorem aw12 (A : Option Addr) (c : Nat) (w : World) (h : Rcs w A 1 c [(⟨⟨#[98]⟩, ⟨#[99, 97, 116]⟩, 8, 200, 1⟩ : Rc)]) : Calls Try.prog 13 #[.slice A 1 c] w fun e w' => e = .returned (.int .i64 0) ∧ Below w.heap.size w w' :=
  (check13 A 1 c [(⟨⟨#[98]⟩, ⟨#[99, 97, 116]⟩, 8, 200, 1⟩ : Rc)] w h (by omega)).mono fun e w' ⟨he, hb⟩ => by
    rw [show chk [(⟨⟨#[98]⟩, ⟨#[99, 97, 116]⟩, 8, 200, 1⟩ : Rc)] 1 = 0 by kernel_rfl] at he
    exact ⟨he, hb⟩
set_option maxRecDepth 100000 in
set_option maxHeartbeats 8000000 in
theorem awake10 (w : World) : Calls Try.prog 10 #[] w fun e w' => e = .returned (.bool true) ∧ Below w.heap.size w w' := by
  go_enter Try.func10, Try.ntmps10
  go_wp2_with (first
    | (go_at_call 23; (with_reducible refine (aw1 _).mono ?_); rintro e w1 ⟨A1, c1, rfl, hT, hb⟩; have L1 := Lib.hid hT; have B1 := Lib.hid hb; clear hT hb)
    | (go_at_call 25; (with_reducible refine (aw2 A1 c1 _ L1.out).mono ?_); rintro e w2 ⟨A2, c2, rfl, hT, hb⟩; have L2 := Lib.hid (L1.out.below hb); have X2 := Lib.hid hT; have B2 := Lib.hid (B1.out.trans (hb.mono B1.out.size)); clear hT hb)
    | (go_at_call 25; (with_reducible refine (aw3 A1 c1 _ L2.out).mono ?_); rintro e w3 ⟨A3, c3, rfl, hT, hb⟩; have L3 := Lib.hid (L2.out.below hb); have X3 := Lib.hid (X2.out.below hb); have Y3 := Lib.hid hT; have B3 := Lib.hid (B2.out.trans (hb.mono B2.out.size)); clear hT hb)
    | (go_at_call 23; (with_reducible refine (aw4 A3 c3 _ Y3.out).mono ?_); rintro e w4 ⟨A4, c4, rfl, hT, hb⟩; have L4 := Lib.hid (L3.out.below hb); have X4 := Lib.hid (X3.out.below hb); have Y4 := Lib.hid (Y3.out.below hb); have Z4 := Lib.hid hT; have B4 := Lib.hid (B3.out.trans (hb.mono B3.out.size)); clear hT hb)
    | (go_at_call 21; (with_reducible refine (aw5 _).mono ?_); rintro e w5 ⟨A5, c5, rfl, hT, hb⟩; have L5 := Lib.hid (L4.out.below hb); have X5 := Lib.hid (X4.out.below hb); have Y5 := Lib.hid (Y4.out.below hb); have Z5 := Lib.hid (Z4.out.below hb); have Q5 := Lib.hid hT; have B5 := Lib.hid (B4.out.trans (hb.mono B4.out.size)); clear hT hb)
    | (go_at_call 23; (with_reducible refine (aw6 A5 c5 _ Q5.out).mono ?_); rintro e w6 ⟨⟨A6, c6, rfl⟩, hb⟩; have L6 := Lib.hid (L5.out.below hb); have X6 := Lib.hid (X5.out.below hb); have Y6 := Lib.hid (Y5.out.below hb); have Z6 := Lib.hid (Z5.out.below hb); have Q6 := Lib.hid (Q5.out.below hb); have B6 := Lib.hid (B5.out.trans (hb.mono B5.out.size)); clear hb)
    | (go_at_call 23; (with_reducible refine (aw7 _).mono ?_); rintro e w7 ⟨⟨A7, c7, rfl⟩, hb⟩; have L7 := Lib.hid (L6.out.below hb); have X7 := Lib.hid (X6.out.below hb); have Y7 := Lib.hid (Y6.out.below hb); have Z7 := Lib.hid (Z6.out.below hb); have Q7 := Lib.hid (Q6.out.below hb); have B7 := Lib.hid (B6.out.trans (hb.mono B6.out.size)); clear hb)
    | (go_at_call 18; (with_reducible refine (aw8 _).mono ?_); rintro e w8 ⟨A8, c8, rfl, hT, hb⟩; have L8 := Lib.hid (L7.out.below hb); have X8 := Lib.hid (X7.out.below hb); have Y8 := Lib.hid (Y7.out.below hb); have Z8 := Lib.hid (Z7.out.below hb); have Q8 := Lib.hid (Q7.out.below hb); have B8 := Lib.hid (B7.out.trans (hb.mono B7.out.size)); clear hT hb)
    | (go_at_call 11; (with_reducible refine (aw9 A3 c3 _ Y8.out).mono ?_); rintro e w9 ⟨rfl, hb⟩; have A9 := Lib.hid ((Below.refl _ w9).alloc (Nat.le_refl _) (.cells #[.string ⟨#[98]⟩, .string ⟨#[99, 97, 116]⟩, .int .i64 7, .int .i64 100, .int .i64 3] 26)); have M9 := Lib.hid (blk_new w9 [.string ⟨#[98]⟩, .string ⟨#[99, 97, 116]⟩, .int .i64 7, .int .i64 100, .int .i64 3] 26); have L9 := Lib.hid ((L8.out.below hb).below A9.out); have X9 := Lib.hid ((X8.out.below hb).below A9.out); have Z9 := Lib.hid ((Z8.out.below hb).below A9.out); have Q9 := Lib.hid ((Q8.out.below hb).below A9.out); have B90 := Lib.hid (B8.out.trans (hb.mono B8.out.size)); have B9 := Lib.hid (B90.out.alloc B90.out.size (.cells #[.string ⟨#[98]⟩, .string ⟨#[99, 97, 116]⟩, .int .i64 7, .int .i64 100, .int .i64 3] 26)); clear hb)
    | (go_at_call 15; (with_reducible refine (aw10 A1 c1 _ L9.out).mono ?_); rintro e w10 ⟨rfl, hb⟩; have M10 := Lib.hid (M9.out.below hb); have L10 := Lib.hid (L9.out.below hb); have X10 := Lib.hid (X9.out.below hb); have Z10 := Lib.hid (Z9.out.below hb); have Q10 := Lib.hid (Q9.out.below hb); have B10 := Lib.hid (B9.out.trans (hb.mono B9.out.size)); clear hb)
    | (go_at_call 20; (with_reducible refine (same20 A2 A1 1 c2 c1 _ _ X10.out L10.out).mono ?_); rintro e w11 ⟨rfl, hb⟩; have M11 := Lib.hid (M10.out.below hb); have d4 := M11.out.cell (i := 4) rfl; have d2 := M11.out.cell (i := 2) rfl; have Z11 := Lib.hid (Z10.out.below hb); have Q11 := Lib.hid (Q10.out.below hb); have B11 := Lib.hid (B10.out.trans (hb.mono B10.out.size)); clear hb)
    | (go_at_call 15; (with_reducible refine (aw11 A4 c4 _ Z11.out).mono ?_); rintro e w12 ⟨rfl, hb⟩; have Z12 := Lib.hid (Z11.out.below hb); obtain ⟨bq, oq, rfl, _, _, _, _, _, q4, _⟩ := (Q11.out.below hb).at_ (k := 0) (by omega); have B12 := Lib.hid (B11.out.trans (hb.mono B11.out.size)); clear hb d4 d2)
    | (go_at_call 13; (with_reducible refine (aw12 A4 c4 _ Z12.out).mono ?_); rintro e w13 ⟨rfl, hb⟩; have B13 := Lib.hid (B12.out.trans (hb.mono B12.out.size)); clear hb))
  go_ret
  exact ⟨rfl, B13.out⟩
end Go.Proofs.Ytahcmhjcpkjccaa
