/- The walks of num: limits, sums, digits. No condition beyond the kinds of numbers. -/
import Derived.Test.YtemnidjggamciaaDoorRows
import Derived.Test.YtemnidjggamciaaDoorMath
import Derived.WalkKit
import Derived.WalkSpells
import Derived.WalkLawsBesides
import Derived.Lib.Hide
import Derived.Below
import Derived.Outline
import Derived.Deep.QuietTactic
import Derived.BigQuiet
namespace Go.Proofs.YtemnidjggamciaaDoor
open Go.RowKit
set_option linter.unusedVariables false

theorem ret_i64 {a b : Int} (h : a = b) : Ending.returned (.int .i64 a) = .returned (.int .i64 b) := by rw [h]
theorem ret_bool {a b : Bool} (h : a = b) : Ending.returned (.bool a) = .returned (.bool b) := by rw [h]
/-- The two cells of the limits. -/
structure Lim (w : World) : Prop where
  lt : 0 < w.heap.size
  lo : w.cell? ⟨0, 0, none⟩ = some (.int .i64 (-1000000000000))
  hi : w.cell? ⟨0, 1, none⟩ = some (.int .i64 1000000000000)
theorem Lim.below {w w1 : World} (h : Lim w) (hb : Below w.heap.size w w1) : Lim w1 :=
  ⟨Nat.lt_of_lt_of_le h.lt hb.size, (hb.cell (p := ⟨0, 0, none⟩) h.lt).trans h.lo, (hb.cell (p := ⟨0, 1, none⟩) h.lt).trans h.hi⟩
theorem clip_any (n lo hi : Int) (w : World) : Calls Tryd.prog 11 #[.int .i64 n, .int .i64 lo, .int .i64 hi] w fun e w' => e = .returned (.int .i64 (M.clip n lo hi)) ∧ w = w' := by
  by_cases h1 : hi < lo
  · have H := Lib.hid (show M.clip n lo hi = lo by unfold M.clip; rw [if_pos (.inl h1)])
    have g1 : decide (hi < lo) = true := by simpa using h1
    clear h1
    go_enter Tryd.func11, Tryd.ntmps11
    go_wp2
    all_goals (go_ret; exact ⟨ret_i64 H.out.symm, rfl⟩)
  · have g1 : decide (hi < lo) = false := by simpa using h1
    by_cases h2 : n < lo
    · have H := Lib.hid (show M.clip n lo hi = lo by unfold M.clip; rw [if_pos (.inr h2)])
      have g2 : decide (n < lo) = true := by simpa using h2
      clear h1 h2
      go_enter Tryd.func11, Tryd.ntmps11
      go_wp2
      all_goals (go_ret; exact ⟨ret_i64 H.out.symm, rfl⟩)
    · have g2 : decide (n < lo) = false := by simpa using h2
      by_cases h3 : hi < n
      · have H := Lib.hid (show M.clip n lo hi = hi by unfold M.clip; rw [if_neg (by omega), if_pos h3])
        have g3 : decide (hi < n) = true := by simpa using h3
        clear h1 h2 h3
        go_enter Tryd.func11, Tryd.ntmps11
        go_wp2
        all_goals (go_ret; exact ⟨ret_i64 H.out.symm, rfl⟩)
      · have H := Lib.hid (show M.clip n lo hi = n by unfold M.clip; rw [if_neg (by omega), if_neg h3])
        have g3 : decide (hi < n) = false := by simpa using h3
        clear h1 h2 h3
        go_enter Tryd.func11, Tryd.ntmps11
        go_wp2
        all_goals (go_ret; exact ⟨ret_i64 H.out.symm, rfl⟩)
theorem rclip_any (n lo hi : Int) (w : World) : Calls Tryd.prog 12 #[.int .i64 n, .int .i64 lo, .int .i64 hi] w fun e w' => e = .returned (.int .i64 (M.clip n lo hi)) ∧ w = w' := by
  by_cases h1 : hi < lo
  · have H := Lib.hid (show M.clip n lo hi = lo by unfold M.clip; rw [if_pos (.inl h1)])
    have g1 : decide (hi < lo) = true := by simpa using h1
    clear h1
    go_enter Tryd.func12, Tryd.ntmps12
    go_wp2
    all_goals (go_ret; exact ⟨ret_i64 H.out.symm, rfl⟩)
  · have g1 : decide (hi < lo) = false := by simpa using h1
    by_cases h2 : n < lo
    · have H := Lib.hid (show M.clip n lo hi = lo by unfold M.clip; rw [if_pos (.inr h2)])
      have g2 : decide (n < lo) = true := by simpa using h2
      clear h1 h2
      go_enter Tryd.func12, Tryd.ntmps12
      go_wp2
      all_goals (go_ret; exact ⟨ret_i64 H.out.symm, rfl⟩)
    · have g2 : decide (n < lo) = false := by simpa using h2
      by_cases h3 : hi < n
      · have H := Lib.hid (show M.clip n lo hi = hi by unfold M.clip; rw [if_neg (by omega), if_pos h3])
        have g3 : decide (hi < n) = true := by simpa using h3
        clear h1 h2 h3
        go_enter Tryd.func12, Tryd.ntmps12
        go_wp2
        all_goals (go_ret; exact ⟨ret_i64 H.out.symm, rfl⟩)
      · have H := Lib.hid (show M.clip n lo hi = n by unfold M.clip; rw [if_neg (by omega), if_neg h3])
        have g3 : decide (hi < n) = false := by simpa using h3
        clear h1 h2 h3
        go_enter Tryd.func12, Tryd.ntmps12
        go_wp2
        all_goals (go_ret; exact ⟨ret_i64 H.out.symm, rfl⟩)
theorem bounded_any (n : Int) (w : World) (hL : Lim w) : Calls Tryd.prog 32 #[.int .i64 n] w fun e w' => e = .returned (.int .i64 (M.bnd n)) ∧ w = w' := by
  have h0 := hL.lo
  have h1 := hL.hi
  have hc := clip_any n (-1000000000000) 1000000000000
  rw [show M.clip n (-1000000000000) 1000000000000 = M.bnd n from rfl] at hc
  have HC := Lib.hid hc
  clear hL hc
  go_enter Tryd.func32, Tryd.ntmps32
  go_wp2_with (go_at_call 11; refine (HC.out _).mono ?_; rintro e w' ⟨rfl, rfl⟩)
  go_ret
  exact ⟨rfl, rfl⟩
theorem add_any (a b : Int) (w : World) (hL : Lim w) : Calls Tryd.prog 13 #[.int .i64 a, .int .i64 b] w fun e w' => e = .returned (.int .i64 (M.add a b)) ∧ w = w' := by
  have HL := Lib.hid hL
  obtain ⟨b1, b2⟩ := M.bnd_bd a
  obtain ⟨b3, b4⟩ := M.bnd_bd b
  have HA := Lib.hid (show M.add a b = M.bnd (M.bnd a + M.bnd b) from rfl)
  clear hL
  go_enter Tryd.func13, Tryd.ntmps13
  go_wp2_with (go_at_call 32; refine (bounded_any _ _ HL.out).mono ?_; rintro e w' ⟨rfl, rfl⟩)
  go_ret
  exact ⟨ret_i64 HA.out.symm, rfl⟩
theorem radd_any (a b : Int) (w : World) : Calls Tryd.prog 14 #[.int .i64 a, .int .i64 b] w fun e w' => e = .returned (.int .i64 (M.add a b)) ∧ w = w' := by
  obtain ⟨b1, b2⟩ := M.bnd_bd a
  obtain ⟨b3, b4⟩ := M.bnd_bd b
  have HC := Lib.hid (fun n w => (show Calls Tryd.prog 12 #[.int .i64 n, .int .i64 (-1000000000000), .int .i64 1000000000000] w fun e w' => e = .returned (.int .i64 (M.bnd n)) ∧ w = w' from rclip_any n (-1000000000000) 1000000000000 w))
  have HA := Lib.hid (show M.add a b = M.bnd (M.bnd a + M.bnd b) from rfl)
  go_enter Tryd.func14, Tryd.ntmps14
  go_wp2_with (go_at_call 12; refine (HC.out _ _).mono ?_; rintro e w' ⟨rfl, rfl⟩)
  go_ret
  exact ⟨ret_i64 HA.out.symm, rfl⟩

theorem ret_u64 {a b : Int} (h : a = b) : Ending.returned (.int .u64 a) = .returned (.int .u64 b) := by rw [h]
theorem magnitude_any (n : Int) (h0 : -9223372036854775808 ≤ n) (h1 : n ≤ 9223372036854775807) (w : World) : Calls Tryd.prog 33 #[.int .i64 n] w fun e w' => e = .returned (.int .u64 (n.natAbs : Int)) ∧ w = w' := by
  by_cases hn : n < 0
  · have g : decide (n < 0) = true := by simpa using hn
    have H := Lib.hid (show IntKind.u64.wrap (-IntKind.u64.wrap n) = (n.natAbs : Int) by rw [IntKind.wrap_u64, IntKind.wrap_u64]; omega)
    go_enter Tryd.func33, Tryd.ntmps33
    go_wp2
    go_ret
    exact ⟨ret_u64 H.out, rfl⟩
  · have g : decide (n < 0) = false := by simpa using hn
    have H := Lib.hid (show n = (n.natAbs : Int) by omega)
    go_enter Tryd.func33, Tryd.ntmps33
    go_wp2
    go_ret
    exact ⟨ret_u64 H.out, rfl⟩
theorem count_any (n : Nat) (hn : n ≤ 18446744073709551615) (w : World) : Calls Tryd.prog 34 #[.int .u64 (n : Int)] w fun e w' => e = .returned (.int .i64 ((M.dgs n).length : Int)) ∧ w = w' := by
  have hL : (M.dgs n).length ≤ 20 := M.dgs_len_le 19 n (by omega)
  generalize hl : (M.dgs n).length = L at hL
  have HL := Lib.hid hl
  clear hl
  go_enter Tryd.func34, Tryd.ntmps34
  go_wp2
  go_loop [0, 3] (fun s0 s3 => ∃ m k : Nat, s0 = .int .u64 m ∧ s3 = .int .i64 k ∧ m ≤ 18446744073709551615 ∧ 1 ≤ k ∧ Hid ((M.dgs m).length + k = L + 1)) (fun s0 _ => (intOf s0).toNat)
  case atStart => exact ⟨n, 1, rfl, rfl, hn, Nat.le_refl _, Lib.hid (by rw [HL.out])⟩
  case round =>
    obtain ⟨m, k, rfl, rfl, hm, hk1, HK⟩ := hrel
    have hp := M.dgs_pos m
    have hk : k ≤ 20 := by have := HK.out; omega
    clear hp
    by_cases hlt : 10 ≤ m
    · have g : decide ((10 : Int) ≤ (m : Int)) = true := by simp; omega
      have HD := Lib.hid (M.dgs_len_big hlt)
      go_wp2
      go_round
      case rel => exact ⟨m / 10, k + 1, by simp, by go_num, by omega, by omega, Lib.hid (by have := HD.out; have := HK.out; omega)⟩
      case measure => simp [intOf]; omega
    · have g : decide ((10 : Int) ≤ (m : Int)) = false := by simp; omega
      have HD := Lib.hid (show k = L by have := M.dgs_len_small (n := m) (by omega); have := HK.out; omega)
      go_wp2
      go_ret
      exact ⟨ret_i64 (by rw [HD.out]), rfl⟩
end Go.Proofs.YtemnidjggamciaaDoor
