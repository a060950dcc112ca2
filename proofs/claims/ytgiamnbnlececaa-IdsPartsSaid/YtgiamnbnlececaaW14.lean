/- The helper `awake` of the identifiers' statements returns true in every world. No condition. -/
import Derived.Test.YtgiamnbnlececaaW13
import Derived.Test.YtgiamnbnlececaaW9
namespace Go.Proofs.Ytgiamnbnlececaa
open Go.RowKit
set_option linter.unusedVariables false

theorem k1 : anyB (mkS 33 ⟨#[114]⟩ ⟨#[120]⟩) = true := by decide +kernel
theorem k1s : mkR 33 ⟨#[114]⟩ ⟨#[120]⟩ = ⟨#[33, 114, 58, 120]⟩ := by decide +kernel
theorem k2 : anyB (mkS 35 ⟨#[114]⟩ ⟨#[120]⟩) = false := by decide +kernel
theorem k2s : mkR 35 ⟨#[114]⟩ ⟨#[120]⟩ = ⟨#[]⟩ := by decide +kernel
theorem k3 : I.mkd 64 (bys ⟨#[64, 97, 110, 110, 58, 97, 46, 101, 120, 97, 109, 112, 108, 101]⟩) = true := by decide +kernel
theorem k4 : locA ⟨#[64, 97, 110, 110, 58, 97, 46, 101, 120, 97, 109, 112, 108, 101]⟩ = ⟨#[97, 110, 110]⟩ := by decide +kernel
theorem k5 : srvA ⟨#[64, 97, 110, 110, 58, 97, 46, 101, 120, 97, 109, 112, 108, 101]⟩ = ⟨#[97, 46, 101, 120, 97, 109, 112, 108, 101]⟩ := by decide +kernel
theorem k6 : I.mkd 33 (bys ⟨#[64, 97, 110, 110, 58, 97, 46, 101, 120, 97, 109, 112, 108, 101]⟩) = false := by decide +kernel
theorem k7 : I.isSrv (bys ⟨#[48, 45, 57, 46, 122]⟩) = true := by decide +kernel
theorem k8 : I.isSrv (bys ⟨#[45, 97]⟩) = false := by decide +kernel
theorem k9 : I.nm (tx [⟨#[98]⟩, ⟨#[97]⟩, ⟨#[98]⟩]) = [[97], [98]] := by
  refine (I.nm_eq ?_ ?_).symm
  · unfold I.Srt; decide
  · intro x
    simp [tx]
    exact fun h => .inr h
theorem k10 : I.fnd (tx [⟨#[98]⟩, ⟨#[97]⟩, ⟨#[98]⟩]) [98] = 0 := by decide +kernel
theorem k11 : I.fnd (tx [⟨#[98]⟩]) [99] = -1 := by decide +kernel
theorem c1 (w : World) : Calls Try.prog 20 #[.int .u8 33, .string ⟨#[114]⟩, .string ⟨#[120]⟩] w fun e w' => e = .returned (.tuple #[.string ⟨#[33, 114, 58, 120]⟩, .int .i64 0]) ∧ Below w.heap.size w w' :=
  (make_any 33 _ _ (by decide) (by decide) w).mono fun e w' ⟨he, hb⟩ => ⟨by rw [he, k1, k1s]; rfl, hb⟩
theorem c2 (w : World) : Calls Try.prog 20 #[.int .u8 35, .string ⟨#[114]⟩, .string ⟨#[120]⟩] w fun e w' => e = .returned (.tuple #[.string ⟨#[]⟩, .int .i64 3]) ∧ Below w.heap.size w w' :=
  (make_any 35 _ _ (by decide) (by decide) w).mono fun e w' ⟨he, hb⟩ => ⟨by rw [he, k2, k2s]; rfl, hb⟩
theorem c3 (w : World) : Calls Try.prog 12 #[.string ⟨#[64, 97, 110, 110, 58, 97, 46, 101, 120, 97, 109, 112, 108, 101]⟩] w fun e w' => e = .returned (.int .i64 0) ∧ Below w.heap.size w w' :=
  (user_any _ (by decide) w).mono fun e w' ⟨he, hb⟩ => ⟨by rw [he, k3]; rfl, hb⟩
theorem c4 (w : World) : Calls Try.prog 18 #[.string ⟨#[64, 97, 110, 110, 58, 97, 46, 101, 120, 97, 109, 112, 108, 101]⟩] w fun e w' => e = .returned (.string ⟨#[97, 110, 110]⟩) ∧ Below w.heap.size w w' :=
  (localOf_any _ (by decide) w).mono fun e w' ⟨he, hb⟩ => ⟨by rw [he, k4], hb⟩
theorem c5 (w : World) : Calls Try.prog 16 #[.string ⟨#[64, 97, 110, 110, 58, 97, 46, 101, 120, 97, 109, 112, 108, 101]⟩] w fun e w' => e = .returned (.string ⟨#[97, 46, 101, 120, 97, 109, 112, 108, 101]⟩) ∧ Below w.heap.size w w' :=
  (serverOf_any _ (by decide) w).mono fun e w' ⟨he, hb⟩ => ⟨by rw [he, k5], hb⟩
theorem c6 (w : World) : Calls Try.prog 14 #[.string ⟨#[64, 97, 110, 110, 58, 97, 46, 101, 120, 97, 109, 112, 108, 101]⟩] w fun e w' => e = .returned (.int .i64 3) ∧ Below w.heap.size w w' :=
  (room_any _ (by decide) w).mono fun e w' ⟨he, hb⟩ => ⟨by rw [he, k6]; rfl, hb⟩
theorem c7 (w : World) : Calls Try.prog 9 #[.string ⟨#[48, 45, 57, 46, 122]⟩] w fun e w' => e = .returned (.int .i64 0) ∧ w = w' :=
  (server_any _ (by decide) w).mono fun e w' ⟨he, hb⟩ => ⟨by rw [he, k7]; rfl, hb⟩
theorem c8 (w : World) : Calls Try.prog 9 #[.string ⟨#[45, 97]⟩] w fun e w' => e = .returned (.int .i64 3) ∧ w = w' :=
  (server_any _ (by decide) w).mono fun e w' ⟨he, hb⟩ => ⟨by rw [he, k8]; rfl, hb⟩
theorem new_cell (w : World) (C : Array Value) (t : TypeId) (j : Nat) : (w.alloc (.cells C t)).cell? ⟨w.heap.size, j, none⟩ = C[j]? := by
  have := cell_of_row (w.alloc (.cells C t)) w.heap.size j C t (0, 0) (by simpa using heap_alloc_new w (.cells C t))
  simp
theorem strs_new (w : World) (ls : List ByteArray) (hs : ∀ s ∈ ls, s.size ≤ 9223372036854775807) (hl : ls.length ≤ 100) : Strs (w.alloc (.cells (ls.map Value.string).toArray 9)) (some ⟨w.heap.size, 0, none⟩) ls.length ls := by
  refine ⟨rfl, by omega, hs, fun _ => ⟨w.heap.size, 0, rfl, by simp, fun i hi => ?_⟩⟩
  rw [new_cell]
  simp [hi, List.getD_eq_getElem?_getD]
theorem strs3 (w : World) (x y z : ByteArray) (hx : x.size ≤ 9223372036854775807) (hy : y.size ≤ 9223372036854775807) (hz : z.size ≤ 9223372036854775807) : Strs (w.alloc (.cells #[.string x, .string y, .string z] 9)) (some ⟨w.heap.size, 0, none⟩) 3 [x, y, z] := strs_new w [x, y, z] (by simp [hx, hy, hz]) (by simp)
theorem strs2 (w : World) (x y : ByteArray) (hx : x.size ≤ 9223372036854775807) (hy : y.size ≤ 9223372036854775807) : Strs (w.alloc (.cells #[.string x, .string y] 9)) (some ⟨w.heap.size, 0, none⟩) 2 [x, y] := strs_new w [x, y] (by simp [hx, hy]) (by simp)
theorem strs1 (w : World) (x : ByteArray) (hx : x.size ≤ 9223372036854775807) : Strs (w.alloc (.cells #[.string x] 9)) (some ⟨w.heap.size, 0, none⟩) 1 [x] := strs_new w [x] (by simp [hx]) (by simp)
theorem c9 (w : World) (c : Nat) (hc : 3 ≤ c) (A : Option Addr) (h : Strs w A 3 [⟨#[98]⟩, ⟨#[97]⟩, ⟨#[98]⟩]) : Calls Try.prog 23 #[.slice A 3 c] w fun e w' => ∃ A' c', e = .returned (.slice A' 2 c') ∧ Strs w' A' 2 [⟨#[97]⟩, ⟨#[98]⟩] ∧ Below w.heap.size w w' :=
  (names_any A 3 c _ w h hc (by decide)).mono fun e w' hp => by
    rw [k9] at hp
    obtain ⟨A', c', he, _, hs, hb⟩ := hp
    exact ⟨A', c', he, hs, hb⟩
theorem c10 (w : World) (c1 c2 : Nat) (A1 A2 : Option Addr) (h1 : Strs w A1 2 [⟨#[97]⟩, ⟨#[98]⟩]) (h2 : Strs w A2 2 [⟨#[97]⟩, ⟨#[98]⟩]) : Calls Try.prog 22 #[.slice A1 2 c1, .slice A2 2 c2] w fun e w' => e = .returned (.bool true) ∧ Below w.heap.size w w' :=
  (same_any A1 2 c1 _ A2 2 c2 _ w h1 h2).mono fun e w' ⟨he, hb⟩ => ⟨by rw [he]; simp, hb⟩
theorem c11 (w : World) (c : Nat) (A : Option Addr) (h : Strs w A 3 [⟨#[98]⟩, ⟨#[97]⟩, ⟨#[98]⟩]) : Calls Try.prog 25 #[.slice A 3 c, .string ⟨#[98]⟩] w fun e w' => e = .returned (.int .i64 0) ∧ w = w' :=
  (find_any A 3 c _ ⟨#[98]⟩ w h).mono fun e w' ⟨he, hb⟩ => ⟨by rw [he]; exact ret_i64 k10, hb⟩
theorem c12 (w : World) (c : Nat) (A : Option Addr) (h : Strs w A 1 [⟨#[98]⟩]) : Calls Try.prog 25 #[.slice A 1 c, .string ⟨#[99]⟩] w fun e w' => e = .returned (.int .i64 (-1)) ∧ w = w' :=
  (find_any A 1 c _ ⟨#[99]⟩ w h).mono fun e w' ⟨he, hb⟩ => ⟨by rw [he]; exact ret_i64 k11, hb⟩

set_option maxHeartbeats 400000 in
theorem awake_any (w : World) : Calls Try.prog 11 #[] w fun e w' => e = .returned (.bool true) ∧ Below w.heap.size w w' := by
  go_enter Try.func11, Try.ntmps11
  go_wp2_with (first
    | (go_at_call 20; (with_reducible refine (c1 _).mono ?_); rintro e w1 ⟨rfl, hb1⟩; have B1 := Lib.hid hb1; clear hb1)
    | (go_at_call 20; (with_reducible refine (c2 _).mono ?_); rintro e w2 ⟨rfl, hb2⟩; have B2 := Lib.hid (B1.out.trans (hb2.mono B1.out.size)); clear hb2)
    | (go_at_call 12; (with_reducible refine (c3 _).mono ?_); rintro e w3 ⟨rfl, hb3⟩; have B3 := Lib.hid (B2.out.trans (hb3.mono B2.out.size)); clear hb3)
    | (go_at_call 18; (with_reducible refine (c4 _).mono ?_); rintro e w4 ⟨rfl, hb4⟩; have B4 := Lib.hid (B3.out.trans (hb4.mono B3.out.size)); clear hb4)
    | (go_at_call 16; (with_reducible refine (c5 _).mono ?_); rintro e w5 ⟨rfl, hb5⟩; have B5 := Lib.hid (B4.out.trans (hb5.mono B4.out.size)); clear hb5)
    | (go_at_call 14; (with_reducible refine (c6 _).mono ?_); rintro e w6 ⟨rfl, hb6⟩; have B6 := Lib.hid (B5.out.trans (hb6.mono B5.out.size)); clear hb6)
    | (go_at_call 9; (with_reducible refine (c7 _).mono ?_); rintro e w' ⟨rfl, rfl⟩)
    | (go_at_call 9; (with_reducible refine (c8 _).mono ?_); rintro e w' ⟨rfl, rfl⟩))
  have HS3 := strs3 w6 ⟨#[98]⟩ ⟨#[97]⟩ ⟨#[98]⟩ (by decide) (by decide) (by decide)
  refine (c9 _ 3 (by decide) _ HS3).mono ?_
  rintro e w7 ⟨A', c', rfl, hs7, hb7⟩
  have S7 := Lib.hid hs7
  have B7 := Lib.hid ((B6.out.alloc B6.out.size _).trans (hb7.mono (by have := B6.out.size; simp; omega)))
  clear hs7 hb7 HS3
  go_wp2_with fail
  have HS2 := strs2 w7 ⟨#[97]⟩ ⟨#[98]⟩ (by decide) (by decide)
  have HS7 := Strs.below S7.out ((Below.refl w7.heap.size w7).alloc (Nat.le_refl _) (.cells #[.string ⟨#[97]⟩, .string ⟨#[98]⟩] 9))
  refine (c10 _ _ _ _ _ HS7 HS2).mono ?_
  rintro e w8 ⟨rfl, hb8⟩
  have B8 := Lib.hid ((B7.out.alloc B7.out.size _).trans (hb8.mono (by have := B7.out.size; simp; omega)))
  clear hb8 HS2 HS7
  go_wp2_with fail
  have HS3 := strs3 w8 ⟨#[98]⟩ ⟨#[97]⟩ ⟨#[98]⟩ (by decide) (by decide) (by decide)
  refine (c11 _ _ _ HS3).mono ?_
  rintro e w' ⟨rfl, rfl⟩
  clear HS3
  go_wp2_with fail
  have HS1 := strs1 (w8.alloc (.cells #[.string ⟨#[98]⟩, .string ⟨#[97]⟩, .string ⟨#[98]⟩] 9)) ⟨#[98]⟩ (by decide)
  have hz : (w8.alloc (.cells #[.string ⟨#[98]⟩, .string ⟨#[97]⟩, .string ⟨#[98]⟩] 9)).heap.size = w8.heap.size + 1 := by simp
  rw [hz] at HS1
  clear hz
  refine (c12 _ _ _ HS1).mono ?_
  rintro e w' ⟨rfl, rfl⟩
  clear HS1
  go_wp2_with fail
  go_ret
  exact ⟨rfl, (B8.out.alloc B8.out.size _).alloc (by have := B8.out.size; simp; omega) _⟩
end Go.Proofs.Ytgiamnbnlececaa
