/- The helper `live` of the patterns' statements returns true in every world. No condition. -/
import Derived.Test.YtbaghejoolemlaaW8
namespace Go.Proofs.Ytbaghejoolemlaa
open Go.RowKit
set_option linter.unusedVariables false

theorem gm0 : gm (bys ⟨#[42, 46, 101, 120, 97, 109, 112, 108, 101, 46, 111, 114, 103]⟩) (bys ⟨#[99, 104, 97, 116, 46, 101, 120, 97, 109, 112, 108, 101, 46, 111, 114, 103]⟩) = true := by decide +kernel
theorem live0 (w : World) : Calls Try.prog 17 #[.string ⟨#[42, 46, 101, 120, 97, 109, 112, 108, 101, 46, 111, 114, 103]⟩, .string ⟨#[99, 104, 97, 116, 46, 101, 120, 97, 109, 112, 108, 101, 46, 111, 114, 103]⟩] w fun e w' => e = .returned (.bool true) ∧ Below w.heap.size w w' :=
  (match_any _ _ (by decide) (by decide) w).mono fun e w' ⟨he, hb⟩ => ⟨by rw [he, gm0], hb⟩
theorem gm1 : gm (bys ⟨#[42, 46, 101, 120, 97, 109, 112, 108, 101, 46, 111, 114, 103]⟩) (bys ⟨#[101, 120, 97, 109, 112, 108, 101, 46, 111, 114, 103]⟩) = false := by decide +kernel
theorem live1 (w : World) : Calls Try.prog 17 #[.string ⟨#[42, 46, 101, 120, 97, 109, 112, 108, 101, 46, 111, 114, 103]⟩, .string ⟨#[101, 120, 97, 109, 112, 108, 101, 46, 111, 114, 103]⟩] w fun e w' => e = .returned (.bool false) ∧ Below w.heap.size w w' :=
  (match_any _ _ (by decide) (by decide) w).mono fun e w' ⟨he, hb⟩ => ⟨by rw [he, gm1], hb⟩
theorem gm2 : gm (bys ⟨#[97, 63, 99]⟩) (bys ⟨#[97, 99]⟩) = false := by decide +kernel
theorem live2 (w : World) : Calls Try.prog 17 #[.string ⟨#[97, 63, 99]⟩, .string ⟨#[97, 99]⟩] w fun e w' => e = .returned (.bool false) ∧ Below w.heap.size w w' :=
  (match_any _ _ (by decide) (by decide) w).mono fun e w' ⟨he, hb⟩ => ⟨by rw [he, gm2], hb⟩
theorem gm3 : gm (bys ⟨#[97, 42, 99]⟩) (bys ⟨#[97, 99]⟩) = true := by decide +kernel
theorem live3 (w : World) : Calls Try.prog 17 #[.string ⟨#[97, 42, 99]⟩, .string ⟨#[97, 99]⟩] w fun e w' => e = .returned (.bool true) ∧ Below w.heap.size w w' :=
  (match_any _ _ (by decide) (by decide) w).mono fun e w' ⟨he, hb⟩ => ⟨by rw [he, gm3], hb⟩
theorem fst4 : fst [⟨#[98, 42]⟩, ⟨#[42, 99]⟩] (bys ⟨#[97, 98, 99]⟩) = 1 := by decide +kernel
theorem fst5 : fst [⟨#[42]⟩] (bys ⟨#[]⟩) = 0 := by decide +kernel
theorem chk6 : chk (bys ⟨#[97, 32, 98]⟩) = 3 := by decide +kernel
theorem chk7 : chk (bys ⟨#[]⟩) = 9 := by decide +kernel
theorem least8 : G.least (bys ⟨#[97, 42, 63]⟩) = 2 := by decide +kernel
theorem plb9 : plb (bys ⟨#[97, 63]⟩) = false := by decide +kernel
theorem plb10 : plb (bys ⟨#[97]⟩) = true := by decide +kernel
theorem new_cell (w : World) (C : Array Value) (t : TypeId) (f : Nat × Nat) (j : Nat) : (w.alloc (.cells C t f)).cell? ⟨w.heap.size, j, none⟩ = C[j]? := by
  have := cell_of_row (w.alloc (.cells C t f)) w.heap.size j C t f (heap_alloc_new w _)
  simpa using this
theorem strs2 (w : World) (x y : ByteArray) (hx : x.size ≤ 9223372036854775807) (hy : y.size ≤ 9223372036854775807) (t : TypeId) (f : Nat × Nat) : Strs (w.alloc (.cells #[.string x, .string y] t f)) (some ⟨w.heap.size, 0, none⟩) 2 [x, y] := by
  refine ⟨rfl, by omega, by simp [hx, hy], fun _ => ⟨w.heap.size, 0, rfl, by simp, fun i hi => ?_⟩⟩
  rw [new_cell]
  match i, hi with
  | 0, _ => rfl
  | 1, _ => rfl
theorem strs1 (w : World) (x : ByteArray) (hx : x.size ≤ 9223372036854775807) (t : TypeId) (f : Nat × Nat) : Strs (w.alloc (.cells #[.string x] t f)) (some ⟨w.heap.size, 0, none⟩) 1 [x] := by
  refine ⟨rfl, by omega, by simp [hx], fun _ => ⟨w.heap.size, 0, rfl, by simp, fun i hi => ?_⟩⟩
  rw [new_cell]
  match i, hi with
  | 0, _ => rfl
theorem live4 (w w' : World) (b c : Nat) (h : Strs w' (some ⟨b, 0, none⟩) 2 [⟨#[98, 42]⟩, ⟨#[42, 99]⟩]) : Calls Try.prog 19 #[.slice (some ⟨b, 0, none⟩) 2 c, .string ⟨#[97, 98, 99]⟩] w' fun e w'' => e = .returned (.int .i64 1) ∧ Below w'.heap.size w' w'' :=
  (first_any _ _ _ _ _ (by decide) _ h).mono fun e w' ⟨he, hb⟩ => ⟨by rw [he, fst4], hb⟩
theorem live5 (w w' : World) (b c : Nat) (h : Strs w' (some ⟨b, 0, none⟩) 1 [⟨#[42]⟩]) : Calls Try.prog 21 #[.slice (some ⟨b, 0, none⟩) 1 c, .string ⟨#[]⟩] w' fun e w'' => e = .returned (.bool true) ∧ Below w'.heap.size w' w'' :=
  (any_any _ _ _ _ _ (by decide) _ h).mono fun e w' ⟨he, hb⟩ => ⟨by rw [he, fst5]; rfl, hb⟩
theorem live6 (w : World) : Calls Try.prog 10 #[.string ⟨#[97, 32, 98]⟩] w fun e w' => e = .returned (.int .i64 3) ∧ w = w' :=
  (check_any _ (by decide) w).mono fun e w' ⟨he, hb⟩ => ⟨by rw [he, chk6], hb⟩
theorem live7 (w : World) : Calls Try.prog 10 #[.string ⟨#[]⟩] w fun e w' => e = .returned (.int .i64 9) ∧ w = w' :=
  (check_any _ (by decide) w).mono fun e w' ⟨he, hb⟩ => ⟨by rw [he, chk7], hb⟩
theorem live8 (w : World) : Calls Try.prog 14 #[.string ⟨#[97, 42, 63]⟩] w fun e w' => e = .returned (.int .i64 2) ∧ w = w' :=
  (least_any _ (by decide) w).mono fun e w' ⟨he, hb⟩ => ⟨by rw [he, least8]; rfl, hb⟩
theorem live9 (w : World) : Calls Try.prog 12 #[.string ⟨#[97, 63]⟩] w fun e w' => e = .returned (.bool false) ∧ w = w' :=
  (plain_any _ (by decide) w).mono fun e w' ⟨he, hb⟩ => ⟨by rw [he, plb9], hb⟩
theorem live10 (w : World) : Calls Try.prog 12 #[.string ⟨#[97]⟩] w fun e w' => e = .returned (.bool true) ∧ w = w' :=
  (plain_any _ (by decide) w).mono fun e w' ⟨he, hb⟩ => ⟨by rw [he, plb10], hb⟩

set_option maxHeartbeats 800000 in
theorem live_any (w : World) : Calls Try.prog 16 #[] w fun e w' => e = .returned (.bool true) ∧ Below w.heap.size w w' := by
  go_enter Try.func16, Try.ntmps16
  go_wp2_with (first
    | (go_at_call 17; (with_reducible refine (live0 _).mono ?_); rintro e w1 ⟨rfl, hb1⟩; have B1 := Lib.hid hb1; clear hb1)
    | (go_at_call 17; (with_reducible refine (live1 _).mono ?_); rintro e w2 ⟨rfl, hb2⟩; have B2 := Lib.hid (B1.out.trans (hb2.mono B1.out.size)); clear hb2)
    | (go_at_call 17; (with_reducible refine (live2 _).mono ?_); rintro e w3 ⟨rfl, hb3⟩; have B3 := Lib.hid (B2.out.trans (hb3.mono B2.out.size)); clear hb3)
    | (go_at_call 17; (with_reducible refine (live3 _).mono ?_); rintro e w4 ⟨rfl, hb4⟩; have B4 := Lib.hid (B3.out.trans (hb4.mono B3.out.size)); clear hb4)
    | (go_at_call 19; refine (live4 w4 _ _ _ (strs2 w4 _ _ (by decide) (by decide) _ _)).mono ?_; rintro e w5 ⟨rfl, hb5⟩; have B5 := Lib.hid ((B4.out.alloc B4.out.size _).trans (hb5.mono (by have := B4.out.size; simp; omega))); clear hb5)
    | (go_at_call 21; refine (live5 w5 _ _ _ (strs1 w5 _ (by decide) _ _)).mono ?_; rintro e w6 ⟨rfl, hb6⟩; have B6 := Lib.hid ((B5.out.alloc B5.out.size _).trans (hb6.mono (by have := B5.out.size; simp; omega))); clear hb6)
    | (go_at_call 10; (with_reducible refine (live6 _).mono ?_); rintro e w' ⟨rfl, rfl⟩)
    | (go_at_call 10; (with_reducible refine (live7 _).mono ?_); rintro e w' ⟨rfl, rfl⟩)
    | (go_at_call 14; (with_reducible refine (live8 _).mono ?_); rintro e w' ⟨rfl, rfl⟩)
    | (go_at_call 12; (with_reducible refine (live9 _).mono ?_); rintro e w' ⟨rfl, rfl⟩)
    | (go_at_call 12; (with_reducible refine (live10 _).mono ?_); rintro e w' ⟨rfl, rfl⟩))
  go_ret
  exact ⟨rfl, B6.out⟩
end Go.Proofs.Ytbaghejoolemlaa
