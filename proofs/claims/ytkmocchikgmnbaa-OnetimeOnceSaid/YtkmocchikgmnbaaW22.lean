/- One-time keys: great; the examples of the chapter. No condition. -/
import Derived.Test.YtkmocchikgmnbaaW20
import Derived.Lib.Hide
namespace Go.Proofs.Ytkmocchikgmnbaa
open Go.RowKit
set_option linter.unusedVariables false
set_option linter.unusedSimpArgs false

theorem great_no (A : Option Addr) (n c : Nat) (w : World) (hn : n ≤ 50) : Calls Try.prog 8 #[.slice A n c] w fun e w' => e = .returned (.bool false) ∧ Below w.heap.size w w' := by
  have h0 : ¬ (50 : Int) < (n : Int) := by omega
  go_enter Try.func8, Try.ntmps8
  go_wp2
  go_ret
  exact ⟨rfl, Below.refl _ _⟩
theorem great_yes (A : Option Addr) (n c : Nat) (w : World) (hn : ¬ n ≤ 50) : Calls Try.prog 8 #[.slice A n c] w fun e w' => e = .returned (.bool true) ∧ Below w.heap.size w w' := by
  have h0 : (50 : Int) < (n : Int) := by omega
  go_enter Try.func8, Try.ntmps8
  go_wp2
  go_ret
  exact ⟨rfl, Below.refl _ _⟩
def One (u : World) (p : Rc) (r : Int) (e : Ending) (w' : World) : Prop := ∃ A c, e = .returned (.tuple #[.slice A 1 c, .int .i64 r]) ∧ Rcs w' A 1 c [p] ∧ Below u.heap.size u w'
def One3 (u : World) (p : Rc) (k : Int) (e : Ending) (w' : World) : Prop := ∃ A c, e = .returned (.tuple #[.slice A 1 c, .int .i64 k, .int .i64 0]) ∧ Rcs w' A 1 c [p] ∧ Below u.heap.size u w'
theorem up_one (A : Option Addr) (n c : Nat) (zs : List Rc) (u d : ByteArray) (k : Int) (p : Rc) (w : World) (h : Rcs w A n c zs) (hn : n ≤ 900000) (hu : u.size ≤ 9223372036854775807) (hd : d.size ≤ 9223372036854775807) (hE : upE zs u d k = 0) (hp : putL zs (upP zs u d k) = [p]) : Calls Try.prog 12 #[.slice A n c, .string u, .string d, .int .i64 k] w (One w p 0) :=
  (upload_any A n c zs u d k w h hn hu hd).mono fun e w' ⟨A', c', ys, he, hr, hb, _, h0, _⟩ => by
    rw [hE] at he h0
    rw [hp] at h0
    obtain rfl := List.perm_singleton.1 (h0 rfl).1
    exact ⟨A', c', he, hr, hb⟩
theorem cl_one0 (A : Option Addr) (n c : Nat) (zs : List Rc) (u d : ByteArray) (k : Int) (p : Rc) (w : World) (h : Rcs w A n c zs) (hn : n ≤ 900000) (hu : u.size ≤ 9223372036854775807) (hd : d.size ≤ 9223372036854775807) (hE : clE zs u d = 0) (hK : clK zs u d = k) (hp : putL zs (clP zs u d) = [p]) : Calls Try.prog 15 #[.slice A n c, .string u, .string d] w (One3 w p k) :=
  (claim_any A n c zs u d w h hn hu hd).mono fun e w' ⟨A', c', ys, he, hr, hb, _, h0, _⟩ => by
    rw [hE] at he h0
    rw [hK] at he
    rw [hp] at h0
    obtain rfl := List.perm_singleton.1 (h0 rfl).1
    exact ⟨A', c', he, hr, hb⟩
theorem aw1 (w : World) : Calls Try.prog 12 #[.slice none 0 0, .string ⟨#[64, 97, 110, 110, 58, 97]⟩, .string ⟨#[112, 104, 111, 110, 101]⟩, .int .i64 2] w (One w (⟨⟨#[64, 97, 110, 110, 58, 97]⟩, ⟨#[112, 104, 111, 110, 101]⟩, 2, 2⟩ : Rc) 0) :=
  up_one none 0 0 [] _ _ 2 _ w (Rcs.nil w) (by omega) (by decide) (by decide) (by kernel_rfl) (by kernel_rfl)
theorem aw2 (A : Option Addr) (c : Nat) (w : World) (h : Rcs w A 1 c [(⟨⟨#[64, 97, 110, 110, 58, 97]⟩, ⟨#[112, 104, 111, 110, 101]⟩, 2, 2⟩ : Rc)]) : Calls Try.prog 15 #[.slice A 1 c, .string ⟨#[64, 97, 110, 110, 58, 97]⟩, .string ⟨#[112, 104, 111, 110, 101]⟩] w (One3 w (⟨⟨#[64, 97, 110, 110, 58, 97]⟩, ⟨#[112, 104, 111, 110, 101]⟩, 2, 1⟩ : Rc) 0) :=
  cl_one0 A 1 c _ _ _ 0 _ w h (by omega) (by decide) (by decide) (by kernel_rfl) (by kernel_rfl) (by kernel_rfl)
theorem aw3 (A : Option Addr) (c : Nat) (w : World) (h : Rcs w A 1 c [(⟨⟨#[64, 97, 110, 110, 58, 97]⟩, ⟨#[112, 104, 111, 110, 101]⟩, 2, 1⟩ : Rc)]) : Calls Try.prog 15 #[.slice A 1 c, .string ⟨#[64, 97, 110, 110, 58, 97]⟩, .string ⟨#[112, 104, 111, 110, 101]⟩] w (One3 w (⟨⟨#[64, 97, 110, 110, 58, 97]⟩, ⟨#[112, 104, 111, 110, 101]⟩, 2, 0⟩ : Rc) 1) :=
  cl_one0 A 1 c _ _ _ 1 _ w h (by omega) (by decide) (by decide) (by kernel_rfl) (by kernel_rfl) (by kernel_rfl)
theorem aw4 (A : Option Addr) (c : Nat) (w : World) (h : Rcs w A 1 c [(⟨⟨#[64, 97, 110, 110, 58, 97]⟩, ⟨#[112, 104, 111, 110, 101]⟩, 2, 0⟩ : Rc)]) : Calls Try.prog 15 #[.slice A 1 c, .string ⟨#[64, 97, 110, 110, 58, 97]⟩, .string ⟨#[112, 104, 111, 110, 101]⟩] w fun e w' => (∃ A' n' c' k', e = .returned (.tuple #[.slice A' n' c', .int .i64 k', .int .i64 5])) ∧ Below w.heap.size w w' :=
  (claim_any A 1 c _ _ _ w h (by omega) (by decide) (by decide)).mono fun e w' ⟨A', c', ys, he, hr, hb, _⟩ => by
    rw [show clE [(⟨⟨#[64, 97, 110, 110, 58, 97]⟩, ⟨#[112, 104, 111, 110, 101]⟩, 2, 0⟩ : Rc)] ⟨#[64, 97, 110, 110, 58, 97]⟩ ⟨#[112, 104, 111, 110, 101]⟩ = 5 by kernel_rfl] at he
    exact ⟨⟨A', _, c', _, he⟩, hb⟩
theorem aw5 (A : Option Addr) (c : Nat) (w : World) (h : Rcs w A 1 c [(⟨⟨#[64, 97, 110, 110, 58, 97]⟩, ⟨#[112, 104, 111, 110, 101]⟩, 2, 0⟩ : Rc)]) : Calls Try.prog 12 #[.slice A 1 c, .string ⟨#[64, 97, 110, 110, 58, 97]⟩, .string ⟨#[112, 104, 111, 110, 101]⟩, .int .i64 1] w (One w (⟨⟨#[64, 97, 110, 110, 58, 97]⟩, ⟨#[112, 104, 111, 110, 101]⟩, 3, 1⟩ : Rc) 0) :=
  up_one A 1 c _ _ _ 1 _ w h (by omega) (by decide) (by decide) (by kernel_rfl) (by kernel_rfl)
theorem aw6 (A : Option Addr) (c : Nat) (w : World) (h : Rcs w A 1 c [(⟨⟨#[64, 97, 110, 110, 58, 97]⟩, ⟨#[112, 104, 111, 110, 101]⟩, 3, 1⟩ : Rc)]) : Calls Try.prog 15 #[.slice A 1 c, .string ⟨#[64, 97, 110, 110, 58, 97]⟩, .string ⟨#[112, 104, 111, 110, 101]⟩] w (One3 w (⟨⟨#[64, 97, 110, 110, 58, 97]⟩, ⟨#[112, 104, 111, 110, 101]⟩, 3, 0⟩ : Rc) 2) :=
  cl_one0 A 1 c _ _ _ 2 _ w h (by omega) (by decide) (by decide) (by kernel_rfl) (by kernel_rfl) (by kernel_rfl)
theorem aw7 (A : Option Addr) (c : Nat) (w : World) (h : Rcs w A 1 c [(⟨⟨#[64, 97, 110, 110, 58, 97]⟩, ⟨#[112, 104, 111, 110, 101]⟩, 2, 1⟩ : Rc)]) : Calls Try.prog 17 #[.slice A 1 c, .string ⟨#[64, 97, 110, 110, 58, 97]⟩, .string ⟨#[112, 104, 111, 110, 101]⟩] w fun e w' => e = .returned (.int .i64 1) ∧ Below w.heap.size w w' :=
  (left_any A 1 c _ _ _ w h (by omega)).mono fun e w' ⟨he, hb⟩ => by
    rw [show lk [(⟨⟨#[64, 97, 110, 110, 58, 97]⟩, ⟨#[112, 104, 111, 110, 101]⟩, 2, 1⟩ : Rc)] ⟨#[64, 97, 110, 110, 58, 97]⟩ ⟨#[112, 104, 111, 110, 101]⟩ = (⟨⟨#[64, 97, 110, 110, 58, 97]⟩, ⟨#[112, 104, 111, 110, 101]⟩, 2, 1⟩ : Rc) by kernel_rfl] at he
    exact ⟨he, hb⟩
theorem aw8 (A : Option Addr) (c : Nat) (w : World) (h : Rcs w A 1 c [(⟨⟨#[64, 97, 110, 110, 58, 97]⟩, ⟨#[112, 104, 111, 110, 101]⟩, 2, 1⟩ : Rc)]) : Calls Try.prog 19 #[.slice A 1 c, .int .i64 2] w fun e w' => (∃ A' c', e = .returned (.slice A' 1 c')) ∧ Below w.heap.size w w' :=
  (low_any A 1 c _ 2 w h (by omega)).mono fun e w' ⟨A', c', he, hr, hb, _⟩ => by
    rw [show ([(⟨⟨#[64, 97, 110, 110, 58, 97]⟩, ⟨#[112, 104, 111, 110, 101]⟩, 2, 1⟩ : Rc)].filter fun p => !lo 2 p).length = 1 by kernel_rfl] at he
    exact ⟨⟨A', c', he⟩, hb⟩
theorem aw9 (A : Option Addr) (c : Nat) (w : World) (h : Rcs w A 1 c [(⟨⟨#[64, 97, 110, 110, 58, 97]⟩, ⟨#[112, 104, 111, 110, 101]⟩, 3, 1⟩ : Rc)]) : Calls Try.prog 10 #[.slice A 1 c] w fun e w' => e = .returned (.int .i64 0) ∧ Below w.heap.size w w' :=
  (check10 A 1 c _ w h (by omega)).mono fun e w' ⟨he, hb⟩ => by
    rw [show chk [(⟨⟨#[64, 97, 110, 110, 58, 97]⟩, ⟨#[112, 104, 111, 110, 101]⟩, 3, 1⟩ : Rc)] 1 = 0 by kernel_rfl] at he
    exact ⟨he, hb⟩
set_option maxRecDepth 100000 in
set_option maxHeartbeats 8000000 in
theorem awake9 (w : World) : Calls Try.prog 9 #[] w fun e w' => e = .returned (.bool true) ∧ Below w.heap.size w w' := by
  go_enter Try.func9, Try.ntmps9
  go_wp2_with (first
    | (go_at_call 12; (with_reducible refine (aw1 _).mono ?_); rintro e w1 ⟨A1, c1, rfl, hT, hb⟩; have L1 := Lib.hid hT; have B1 := Lib.hid hb; clear hT hb)
    | (go_at_call 15; (with_reducible refine (aw2 A1 c1 _ L1.out).mono ?_); rintro e w2 ⟨A2, c2, rfl, hT, hb⟩; have X2 := Lib.hid hT; have B2 := Lib.hid (B1.out.trans (hb.mono B1.out.size)); clear hT hb)
    | (go_at_call 15; (with_reducible refine (aw3 A2 c2 _ X2.out).mono ?_); rintro e w3 ⟨A3, c3, rfl, hT, hb⟩; have X3 := Lib.hid (X2.out.below hb); have Y3 := Lib.hid hT; have B3 := Lib.hid (B2.out.trans (hb.mono B2.out.size)); clear hT hb)
    | (go_at_call 15; (with_reducible refine (aw4 A3 c3 _ Y3.out).mono ?_); rintro e w4 ⟨⟨A4, n4, c4, k4, rfl⟩, hb⟩; have X4 := Lib.hid (X3.out.below hb); have Y4 := Lib.hid (Y3.out.below hb); have B4 := Lib.hid (B3.out.trans (hb.mono B3.out.size)); clear hb)
    | (go_at_call 12; (with_reducible refine (aw5 A3 c3 _ Y4.out).mono ?_); rintro e w5 ⟨A5, c5, rfl, hT, hb⟩; have X5 := Lib.hid (X4.out.below hb); have Z5 := Lib.hid hT; have B5 := Lib.hid (B4.out.trans (hb.mono B4.out.size)); clear hT hb)
    | (go_at_call 15; (with_reducible refine (aw6 A5 c5 _ Z5.out).mono ?_); rintro e w6 ⟨A6, c6, rfl, hT, hb⟩; have X6 := Lib.hid (X5.out.below hb); have Z6 := Lib.hid (Z5.out.below hb); have B6 := Lib.hid (B5.out.trans (hb.mono B5.out.size)); clear hT hb)
    | (go_at_call 17; (with_reducible refine (aw7 A2 c2 _ X6.out).mono ?_); rintro e w7 ⟨rfl, hb⟩; have X7 := Lib.hid (X6.out.below hb); have Z7 := Lib.hid (Z6.out.below hb); have B7 := Lib.hid (B6.out.trans (hb.mono B6.out.size)); clear hb)
    | (go_at_call 19; (with_reducible refine (aw8 A2 c2 _ X7.out).mono ?_); rintro e w8 ⟨⟨A8, c8, rfl⟩, hb⟩; have Z8 := Lib.hid (Z7.out.below hb); have B8 := Lib.hid (B7.out.trans (hb.mono B7.out.size)); clear hb)
    | (go_at_call 10; (with_reducible refine (aw9 A5 c5 _ Z8.out).mono ?_); rintro e w9 ⟨rfl, hb⟩; have B9 := Lib.hid (B8.out.trans (hb.mono B8.out.size)); clear hb))
  go_ret
  exact ⟨rfl, B9.out⟩
end Go.Proofs.Ytkmocchikgmnbaa
