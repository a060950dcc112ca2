/- Identities of other networks: the examples of the chapter; great. No condition. -/
import Derived.Test.YtkcceobncjoodaaV3
namespace Go.Proofs.Ytkcceobncjoodaa
open Go.RowKit Go.Maps
set_option linter.unusedVariables false
set_option linter.unusedSimpArgs false

def gB : Rc := ⟨⟨#[105, 114, 99]⟩, ⟨#[66, 111, 98, 33]⟩, ⟨#[64, 95, 105, 114, 99, 95, 61, 52, 50, 111, 98, 61, 50, 49, 58, 97, 46, 98]⟩⟩
set_option maxRecDepth 100000 in
theorem lw1 (w : World) : Calls Try.prog 10 #[.string ⟨#[105, 114, 99]⟩, .string ⟨#[66, 111, 98, 33]⟩, .string ⟨#[97, 46, 98]⟩] w fun e w' => e = .returned (.tuple #[.string ⟨#[64, 95, 105, 114, 99, 95, 61, 52, 50, 111, 98, 61, 50, 49, 58, 97, 46, 98]⟩, .int .i64 0]) ∧ Below w.heap.size w w' :=
  (user10 ⟨#[105, 114, 99]⟩ ⟨#[66, 111, 98, 33]⟩ ⟨#[97, 46, 98]⟩ (by decide) (by decide) (by decide) w).mono fun e w' ⟨he, hb⟩ => by
    rw [show usE ⟨#[105, 114, 99]⟩ ⟨#[66, 111, 98, 33]⟩ ⟨#[97, 46, 98]⟩ = 0 by kernel_rfl, show usS ⟨#[105, 114, 99]⟩ ⟨#[66, 111, 98, 33]⟩ ⟨#[97, 46, 98]⟩ = ⟨#[64, 95, 105, 114, 99, 95, 61, 52, 50, 111, 98, 61, 50, 49, 58, 97, 46, 98]⟩ by kernel_rfl] at he
    exact ⟨he, hb⟩
set_option maxRecDepth 100000 in
theorem lw2 (w : World) : Calls Try.prog 13 #[.string ⟨#[64, 95, 105, 114, 99, 95, 61, 52, 50, 111, 98, 61, 50, 49, 58, 97, 46, 98]⟩] w fun e w' => e = .returned (.tuple #[.string ⟨#[105, 114, 99]⟩, .string ⟨#[66, 111, 98, 33]⟩, .int .i64 0]) ∧ Below w.heap.size w w' :=
  (back13 ⟨#[64, 95, 105, 114, 99, 95, 61, 52, 50, 111, 98, 61, 50, 49, 58, 97, 46, 98]⟩ (by decide) w).mono fun e w' ⟨he, hb⟩ => by
    rw [show bkN ⟨#[64, 95, 105, 114, 99, 95, 61, 52, 50, 111, 98, 61, 50, 49, 58, 97, 46, 98]⟩ = ⟨#[105, 114, 99]⟩ by kernel_rfl, show bkM ⟨#[64, 95, 105, 114, 99, 95, 61, 52, 50, 111, 98, 61, 50, 49, 58, 97, 46, 98]⟩ = ⟨#[66, 111, 98, 33]⟩ by kernel_rfl, show bkE ⟨#[64, 95, 105, 114, 99, 95, 61, 52, 50, 111, 98, 61, 50, 49, 58, 97, 46, 98]⟩ = 0 by kernel_rfl] at he
    exact ⟨he, hb⟩
set_option maxRecDepth 100000 in
theorem lw3 (w : World) : Calls Try.prog 13 #[.string ⟨#[64, 95, 105, 114, 99, 95, 61, 54, 50, 111, 98, 58, 97, 46, 98]⟩] w fun e w' => (∃ a b, e = .returned (.tuple #[.string a, .string b, .int .i64 6])) ∧ Below w.heap.size w w' :=
  (back13 ⟨#[64, 95, 105, 114, 99, 95, 61, 54, 50, 111, 98, 58, 97, 46, 98]⟩ (by decide) w).mono fun e w' ⟨he, hb⟩ => by
    rw [show bkE ⟨#[64, 95, 105, 114, 99, 95, 61, 54, 50, 111, 98, 58, 97, 46, 98]⟩ = 6 by kernel_rfl] at he
    exact ⟨⟨_, _, he⟩, hb⟩
set_option maxRecDepth 100000 in
theorem lw4 (w : World) : Calls Try.prog 13 #[.string ⟨#[64, 98, 111, 98, 58, 97, 46, 98]⟩] w fun e w' => (∃ a b, e = .returned (.tuple #[.string a, .string b, .int .i64 6])) ∧ Below w.heap.size w w' :=
  (back13 ⟨#[64, 98, 111, 98, 58, 97, 46, 98]⟩ (by decide) w).mono fun e w' ⟨he, hb⟩ => by
    rw [show bkE ⟨#[64, 98, 111, 98, 58, 97, 46, 98]⟩ = 6 by kernel_rfl] at he
    exact ⟨⟨_, _, he⟩, hb⟩
set_option maxRecDepth 100000 in
theorem bd_ex : bd [] ⟨#[105, 114, 99]⟩ ⟨#[66, 111, 98, 33]⟩ ⟨#[97, 46, 98]⟩ = ([gB], ⟨#[64, 95, 105, 114, 99, 95, 61, 52, 50, 111, 98, 61, 50, 49, 58, 97, 46, 98]⟩, 0) := by
  rw [bd_new (by kernel_rfl) rfl (by decide), show usS ⟨#[105, 114, 99]⟩ ⟨#[66, 111, 98, 33]⟩ ⟨#[97, 46, 98]⟩ = ⟨#[64, 95, 105, 114, 99, 95, 61, 52, 50, 111, 98, 61, 50, 49, 58, 97, 46, 98]⟩ by kernel_rfl]
  rfl
theorem lw5 (w : World) : Calls Try.prog 16 #[.slice none 0 0, .string ⟨#[105, 114, 99]⟩, .string ⟨#[66, 111, 98, 33]⟩, .string ⟨#[97, 46, 98]⟩] w fun e w' => ∃ A c, e = .returned (.tuple #[.slice A 1 c, .string ⟨#[64, 95, 105, 114, 99, 95, 61, 52, 50, 111, 98, 61, 50, 49, 58, 97, 46, 98]⟩, .int .i64 0]) ∧ Rcs w' A 1 c [gB] ∧ Below w.heap.size w w' :=
  (bind16 none 0 0 [] ⟨#[105, 114, 99]⟩ ⟨#[66, 111, 98, 33]⟩ ⟨#[97, 46, 98]⟩ w (Rcs.nil w) (by omega) (by decide) (by decide) (by decide)).mono fun e w' h => by
    unfold BdP BdX at h
    rw [bd_ex] at h
    exact h
theorem lw6 (A : Option Addr) (c : Nat) (w : World) (h : Rcs w A 1 c [gB]) : Calls Try.prog 30 #[.slice A 1 c, .agg #[.string ⟨#[104, 105]⟩, .int .i64 7, .int .i64 0, .bool false, .string ⟨#[]⟩, .slice none 0 0, .slice none 0 0, .slice none 0 0, .slice none 0 0, .int .i64 0, .int .i64 0, .int .i64 0, .int .i64 0, .int .i64 0, .int .i64 0, .int .i64 0], .string ⟨#[105, 114, 99]⟩, .string ⟨#[66, 111, 98, 33]⟩] w fun e w' => e = .returned (.tuple #[.string ⟨#[64, 95, 105, 114, 99, 95, 61, 52, 50, 111, 98, 61, 50, 49, 58, 97, 46, 98]⟩, .agg #[.string ⟨#[104, 105]⟩, .int .i64 0, .int .i64 0, .bool false, .string ⟨#[]⟩, .slice none 0 0, .slice none 0 0, .slice none 0 0, .slice none 0 0, .int .i64 0, .int .i64 0, .int .i64 0, .int .i64 0, .int .i64 0, .int .i64 0, .int .i64 0], .int .i64 0]) ∧ Below w.heap.size w w' :=
  relay_yes A 1 c [gB] _ _ _ w h (by omega) (by unfold big; decide) (by unfold big; decide) (by kernel_rfl)
theorem lw7 (A : Option Addr) (c : Nat) (w : World) (h : Rcs w A 1 c [gB]) : Calls Try.prog 30 #[.slice A 1 c, .agg #[.string ⟨#[]⟩, .int .i64 0, .int .i64 0, .bool false, .string ⟨#[]⟩, .slice none 0 0, .slice none 0 0, .slice none 0 0, .slice none 0 0, .int .i64 0, .int .i64 0, .int .i64 0, .int .i64 0, .int .i64 0, .int .i64 0, .int .i64 0], .string ⟨#[105, 114, 99]⟩, .string ⟨#[66, 111, 98]⟩] w fun e w' => e = .returned (.tuple #[.string ⟨#[]⟩, .agg #[.string ⟨#[]⟩, .int .i64 0, .int .i64 0, .bool false, .string ⟨#[]⟩, .slice none 0 0, .slice none 0 0, .slice none 0 0, .slice none 0 0, .int .i64 0, .int .i64 0, .int .i64 0, .int .i64 0, .int .i64 0, .int .i64 0, .int .i64 0], .int .i64 5]) ∧ Below w.heap.size w w' :=
  relay_no A 1 c [gB] _ _ w h (by omega) (by unfold big; decide) (by unfold big; decide) (by kernel_rfl)
set_option maxRecDepth 100000 in
theorem chk_ex : chkC [gB] 1 = 0 := by
  unfold chkC
  rw [if_neg (by decide)]
  refine chk_no fun j hj => ?_
  obtain rfl : j = 0 := by omega
  rw [stepC_eq]
  rw [if_pos (by kernel_rfl), if_pos ⟨by kernel_rfl, by kernel_rfl⟩, if_neg (by omega)]
theorem lw9 (A : Option Addr) (c : Nat) (w : World) (h : Rcs w A 1 c [gB]) : Calls Try.prog 19 #[.slice A 1 c] w fun e w' => e = .returned (.int .i64 0) ∧ Below w.heap.size w w' :=
  (check19 A 1 c [gB] w h (fun p hp => by rw [List.mem_singleton.1 hp]; decide) (by omega)).mono fun e w' ⟨he, hb⟩ => by
    rw [chk_ex] at he
    exact ⟨he, hb⟩
set_option maxRecDepth 100000 in
set_option maxHeartbeats 8000000 in
theorem live12 (w : World) : Calls Try.prog 12 #[] w fun e w' => e = .returned (.bool true) ∧ Below w.heap.size w w' := by
  have HS := Lib.hid same31
  go_enter Try.func12, Try.ntmps12
  go_wp2_with (first
    | (go_at_call 10; (with_reducible refine (lw1 _).mono ?_); rintro e w1 ⟨rfl, hb⟩; have B1 := Lib.hid hb; clear hb)
    | (go_at_call 13; (with_reducible refine (lw2 _).mono ?_); rintro e w2 ⟨rfl, hb⟩; have B2 := Lib.hid (B1.out.trans (hb.mono B1.out.size)); clear hb)
    | (go_at_call 13; (with_reducible refine (lw3 _).mono ?_); rintro e w3 ⟨⟨a3, b3, rfl⟩, hb⟩; have B3 := Lib.hid (B2.out.trans (hb.mono B2.out.size)); clear hb)
    | (go_at_call 13; (with_reducible refine (lw4 _).mono ?_); rintro e w4 ⟨⟨a4, b4, rfl⟩, hb⟩; have B4 := Lib.hid (B3.out.trans (hb.mono B3.out.size)); clear hb)
    | (go_at_call 16; (with_reducible refine (lw5 _).mono ?_); rintro e w5 ⟨A5, c5, rfl, hr, hb⟩; have L5 := Lib.hid hr; have B5 := Lib.hid (B4.out.trans (hb.mono B4.out.size)); clear hr hb)
    | (go_at_call 30; (with_reducible refine (lw6 A5 c5 _ L5.out).mono ?_); rintro e w6 ⟨rfl, hb⟩; have L6 := Lib.hid ((L5.out.below hb).below ((Below.refl w6.heap.size w6).alloc (Nat.le_refl _) (.cells #[.string ⟨#[104, 105]⟩, .int .i64 0, .int .i64 0, .bool false, .string ⟨#[]⟩, .slice none 0 0, .slice none 0 0, .slice none 0 0, .slice none 0 0, .int .i64 0, .int .i64 0, .int .i64 0, .int .i64 0, .int .i64 0, .int .i64 0, .int .i64 0] 50))); have X6 := Lib.hid (show Blk (w6.alloc (.cells #[.string ⟨#[104, 105]⟩, .int .i64 0, .int .i64 0, .bool false, .string ⟨#[]⟩, .slice none 0 0, .slice none 0 0, .slice none 0 0, .slice none 0 0, .int .i64 0, .int .i64 0, .int .i64 0, .int .i64 0, .int .i64 0, .int .i64 0, .int .i64 0] 50)) w6.heap.size [.string ⟨#[104, 105]⟩, .int .i64 0, .int .i64 0, .bool false, .string ⟨#[]⟩, .slice none 0 0, .slice none 0 0, .slice none 0 0, .slice none 0 0, .int .i64 0, .int .i64 0, .int .i64 0, .int .i64 0, .int .i64 0, .int .i64 0, .int .i64 0] 50 from blk_new w6 [.string ⟨#[104, 105]⟩, .int .i64 0, .int .i64 0, .bool false, .string ⟨#[]⟩, .slice none 0 0, .slice none 0 0, .slice none 0 0, .slice none 0 0, .int .i64 0, .int .i64 0, .int .i64 0, .int .i64 0, .int .i64 0, .int .i64 0, .int .i64 0] 50); have B6 := Lib.hid ((B5.out.trans (hb.mono B5.out.size)).alloc (B5.out.trans (hb.mono B5.out.size)).size (.cells #[.string ⟨#[104, 105]⟩, .int .i64 0, .int .i64 0, .bool false, .string ⟨#[]⟩, .slice none 0 0, .slice none 0 0, .slice none 0 0, .slice none 0 0, .int .i64 0, .int .i64 0, .int .i64 0, .int .i64 0, .int .i64 0, .int .i64 0, .int .i64 0] 50)); clear hb)
    | (go_at_call 30; (with_reducible refine (lw7 A5 c5 _ L6.out).mono ?_); rintro e w7 ⟨rfl, hb⟩; have L7 := Lib.hid ((L6.out.below hb).below ((Below.refl w7.heap.size w7).alloc (Nat.le_refl _) (.cells #[.string ⟨#[]⟩, .int .i64 0, .int .i64 0, .bool false, .string ⟨#[]⟩, .slice none 0 0, .slice none 0 0, .slice none 0 0, .slice none 0 0, .int .i64 0, .int .i64 0, .int .i64 0, .int .i64 0, .int .i64 0, .int .i64 0, .int .i64 0] 50))); have X7 := Lib.hid (show Blk (w7.alloc (.cells #[.string ⟨#[]⟩, .int .i64 0, .int .i64 0, .bool false, .string ⟨#[]⟩, .slice none 0 0, .slice none 0 0, .slice none 0 0, .slice none 0 0, .int .i64 0, .int .i64 0, .int .i64 0, .int .i64 0, .int .i64 0, .int .i64 0, .int .i64 0] 50)) w6.heap.size [.string ⟨#[104, 105]⟩, .int .i64 0, .int .i64 0, .bool false, .string ⟨#[]⟩, .slice none 0 0, .slice none 0 0, .slice none 0 0, .slice none 0 0, .int .i64 0, .int .i64 0, .int .i64 0, .int .i64 0, .int .i64 0, .int .i64 0, .int .i64 0] 50 from (X6.out.below hb).alloc _); have B7 := Lib.hid ((B6.out.trans (hb.mono B6.out.size)).alloc (B6.out.trans (hb.mono B6.out.size)).size (.cells #[.string ⟨#[]⟩, .int .i64 0, .int .i64 0, .bool false, .string ⟨#[]⟩, .slice none 0 0, .slice none 0 0, .slice none 0 0, .slice none 0 0, .int .i64 0, .int .i64 0, .int .i64 0, .int .i64 0, .int .i64 0, .int .i64 0, .int .i64 0] 50)); clear hb; have q0 := X7.out.cell (i := 0) rfl; have q1 := X7.out.cell (i := 1) rfl; have q2 := X7.out.cell (i := 2) rfl; have q3 := X7.out.cell (i := 3) rfl; have q4 := X7.out.cell (i := 4) rfl; have q5 := X7.out.cell (i := 5) rfl; have q6 := X7.out.cell (i := 6) rfl; have q7 := X7.out.cell (i := 7) rfl; have q8 := X7.out.cell (i := 8) rfl; have q9 := X7.out.cell (i := 9) rfl; have q10 := X7.out.cell (i := 10) rfl; have q11 := X7.out.cell (i := 11) rfl; have q12 := X7.out.cell (i := 12) rfl; have q13 := X7.out.cell (i := 13) rfl; have q14 := X7.out.cell (i := 14) rfl; have q15 := X7.out.cell (i := 15) rfl)
    | (go_at_call 31; (with_reducible refine (HS.out _).mono ?_); rintro e w8 ⟨rfl, hb⟩; have L8 := Lib.hid (L7.out.below hb); have B8 := Lib.hid (B7.out.trans (hb.mono B7.out.size)); clear hb)
    | (go_at_call 19; (with_reducible refine (lw9 A5 c5 _ L8.out).mono ?_); rintro e w9 ⟨rfl, hb⟩; have B9 := Lib.hid (B8.out.trans (hb.mono B8.out.size)); clear hb)
    | go_in)
  go_ret
  exact ⟨rfl, B9.out⟩
end Go.Proofs.Ytkcceobncjoodaa
