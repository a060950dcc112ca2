/- Identities of other networks: the small functions on bytes; the names of networks. -/
import Derived.Test.YtkcceobncjoodaaP0
import Derived.Deep.LoopGhost
namespace Go.Proofs.Ytkcceobncjoodaa
open Go.RowKit
set_option linter.unusedVariables false
set_option linter.unusedSimpArgs false

theorem bys_byt (s : ByteArray) : E.Byt (bys s) := by
  intro c hc
  unfold bys at hc
  obtain ⟨x, _, rfl⟩ := List.mem_map.1 hc
  have := x.toNat_lt
  omega
theorem plain47 (c : Int) (w : World) : Calls Try.prog 47 #[.int .u8 c] w fun e w' => e = .returned (.bool (I.letB c)) ∧ w = w' := by
  rcases (show c < 48 ∨ (48 ≤ c ∧ c ≤ 57 ∧ c < 97) ∨ (48 ≤ c ∧ 57 < c ∧ c < 97) ∨ (97 ≤ c ∧ c ≤ 122) ∨ (97 ≤ c ∧ 122 < c ∧ 48 ≤ c ∧ 57 < c) by omega) with h | ⟨h, h2, h3⟩ | ⟨h, h2, h3⟩ | ⟨h, h2⟩ | ⟨h, h2, h3, h4⟩
  · have h' : c < 97 := by omega
    have HF : Hid (I.letB c = false) := Lib.hid (by unfold I.letB; simp; omega)
    go_enter Try.func47, Try.ntmps47
    go_wp2
    go_ret
    exact ⟨ret_bool (by rw [HF.out]; try (simp; omega)), rfl⟩
  · have HF : Hid (I.letB c = true) := Lib.hid (by unfold I.letB; simp; omega)
    go_enter Try.func47, Try.ntmps47
    go_wp2
    go_ret
    exact ⟨ret_bool (by rw [HF.out]; try (simp; omega)), rfl⟩
  · have HF : Hid (I.letB c = false) := Lib.hid (by unfold I.letB; simp; omega)
    go_enter Try.func47, Try.ntmps47
    go_wp2
    go_ret
    exact ⟨ret_bool (by rw [HF.out]; try (simp; omega)), rfl⟩
  · have HF : Hid (I.letB c = true) := Lib.hid (by unfold I.letB; simp; omega)
    go_enter Try.func47, Try.ntmps47
    go_wp2
    go_ret
    exact ⟨ret_bool (by rw [HF.out]; try (simp; omega)), rfl⟩
  · have HF : Hid (I.letB c = false) := Lib.hid (by unfold I.letB; simp; omega)
    go_enter Try.func47, Try.ntmps47
    go_wp2
    go_ret
    exact ⟨ret_bool (by rw [HF.out]; try (simp; omega)), rfl⟩
theorem rplain51 (c : Int) (w : World) : Calls Try.prog 51 #[.int .u8 c] w fun e w' => e = .returned (.bool (I.letB c)) ∧ w = w' := by
  rcases (show c < 48 ∨ (48 ≤ c ∧ c ≤ 57 ∧ c < 97) ∨ (48 ≤ c ∧ 57 < c ∧ c < 97) ∨ (97 ≤ c ∧ c ≤ 122) ∨ (97 ≤ c ∧ 122 < c ∧ 48 ≤ c ∧ 57 < c) by omega) with h | ⟨h, h2, h3⟩ | ⟨h, h2, h3⟩ | ⟨h, h2⟩ | ⟨h, h2, h3, h4⟩
  · have h' : c < 97 := by omega
    have HF : Hid (I.letB c = false) := Lib.hid (by unfold I.letB; simp; omega)
    go_enter Try.func51, Try.ntmps51
    go_wp2
    go_ret
    exact ⟨ret_bool (by rw [HF.out]; try (simp; omega)), rfl⟩
  · have HF : Hid (I.letB c = true) := Lib.hid (by unfold I.letB; simp; omega)
    go_enter Try.func51, Try.ntmps51
    go_wp2
    go_ret
    exact ⟨ret_bool (by rw [HF.out]; try (simp; omega)), rfl⟩
  · have HF : Hid (I.letB c = false) := Lib.hid (by unfold I.letB; simp; omega)
    go_enter Try.func51, Try.ntmps51
    go_wp2
    go_ret
    exact ⟨ret_bool (by rw [HF.out]; try (simp; omega)), rfl⟩
  · have HF : Hid (I.letB c = true) := Lib.hid (by unfold I.letB; simp; omega)
    go_enter Try.func51, Try.ntmps51
    go_wp2
    go_ret
    exact ⟨ret_bool (by rw [HF.out]; try (simp; omega)), rfl⟩
  · have HF : Hid (I.letB c = false) := Lib.hid (by unfold I.letB; simp; omega)
    go_enter Try.func51, Try.ntmps51
    go_wp2
    go_ret
    exact ⟨ret_bool (by rw [HF.out]; try (simp; omega)), rfl⟩
theorem ret_u8 {a b : Int} (h : a = b) : Ending.returned (.int .u8 a) = .returned (.int .u8 b) := by rw [h]
theorem digit52 (n : Int) (h0 : 0 ≤ n) (h1 : n < 16) (w : World) : Calls Try.prog 52 #[.int .u8 n] w fun e w' => e = .returned (.int .u8 (E.hexd n)) ∧ w = w' := by
  by_cases h : n < 10
  · have HE := Lib.hid (show 48 + n = E.hexd n by unfold E.hexd; rw [if_pos h])
    have e1 : IntKind.u8.wrap (48 + n) = 48 + n := IntWalk.u8_in _ (by omega)
    go_enter Try.func52, Try.ntmps52
    go_wp2
    go_ret
    exact ⟨ret_u8 HE.out, rfl⟩
  · have HE := Lib.hid (show 97 + n - 10 = E.hexd n by unfold E.hexd; rw [if_neg h]; omega)
    have e1 : IntKind.u8.wrap (97 + n) = 97 + n := IntWalk.u8_in _ (by omega)
    have e2 : IntKind.u8.wrap (97 + n - 10) = 97 + n - 10 := IntWalk.u8_in _ (by omega)
    go_enter Try.func52, Try.ntmps52
    go_wp2
    go_ret
    exact ⟨ret_u8 HE.out, rfl⟩
theorem value58 (c : Int) (h0 : 0 ≤ c) (h1 : c ≤ 255) (w : World) : Calls Try.prog 58 #[.int .u8 c] w fun e w' => e = .returned (.int .u8 (E.dv c)) ∧ w = w' := by
  by_cases h : 97 ≤ c
  · have HE := Lib.hid (show c - 97 + 10 = E.dv c by unfold E.dv; rw [if_pos h]; omega)
    have e1 : IntKind.u8.wrap (c - 97) = c - 97 := IntWalk.u8_in _ (by omega)
    have e2 : IntKind.u8.wrap (c - 97 + 10) = c - 97 + 10 := IntWalk.u8_in _ (by omega)
    go_enter Try.func58, Try.ntmps58
    go_wp2
    go_ret
    exact ⟨ret_u8 HE.out, rfl⟩
  · have HE := Lib.hid (show IntKind.u8.wrap (c - 48) = E.dv c by unfold E.dv; rw [if_neg h])
    go_enter Try.func58, Try.ntmps58
    go_wp2
    go_ret
    exact ⟨ret_u8 HE.out, rfl⟩
theorem rvalue59 (c : Int) (h0 : 0 ≤ c) (h1 : c ≤ 255) (w : World) : Calls Try.prog 59 #[.int .u8 c] w fun e w' => e = .returned (.int .u8 (E.dr c)) ∧ w = w' := by
  rcases (show c < 48 ∨ (48 ≤ c ∧ c ≤ 57) ∨ (48 ≤ c ∧ 57 < c ∧ c < 97) ∨ (48 ≤ c ∧ 57 < c ∧ 97 ≤ c ∧ c ≤ 102) ∨ (48 ≤ c ∧ 57 < c ∧ 97 ≤ c ∧ 102 < c) by omega) with h | ⟨h, h2⟩ | ⟨h, h2, h3⟩ | ⟨h, h2, h3, h4⟩ | ⟨h, h2, h3, h4⟩
  · have HE := Lib.hid (show (16 : Int) = E.dr c by unfold E.dr; rw [if_neg (by omega), if_neg (by omega)])
    have h' : c < 97 := by omega
    go_enter Try.func59, Try.ntmps59
    go_wp2
    go_ret
    exact ⟨ret_u8 HE.out, rfl⟩
  · have HE := Lib.hid (show c - 48 = E.dr c by unfold E.dr; rw [if_pos (by omega)])
    have e1 : IntKind.u8.wrap (c - 48) = c - 48 := IntWalk.u8_in _ (by omega)
    go_enter Try.func59, Try.ntmps59
    go_wp2
    go_ret
    exact ⟨ret_u8 HE.out, rfl⟩
  · have HE := Lib.hid (show (16 : Int) = E.dr c by unfold E.dr; rw [if_neg (by omega), if_neg (by omega)])
    go_enter Try.func59, Try.ntmps59
    go_wp2
    go_ret
    exact ⟨ret_u8 HE.out, rfl⟩
  · have HE := Lib.hid (show c - 97 + 10 = E.dr c by unfold E.dr; rw [if_neg (by omega), if_pos (by omega)]; omega)
    have e1 : IntKind.u8.wrap (c - 97) = c - 97 := IntWalk.u8_in _ (by omega)
    have e2 : IntKind.u8.wrap (c - 97 + 10) = c - 97 + 10 := IntWalk.u8_in _ (by omega)
    go_enter Try.func59, Try.ntmps59
    go_wp2
    go_ret
    exact ⟨ret_u8 HE.out, rfl⟩
  · have HE := Lib.hid (show (16 : Int) = E.dr c by unfold E.dr; rw [if_neg (by omega), if_neg (by omega)])
    go_enter Try.func59, Try.ntmps59
    go_wp2
    go_ret
    exact ⟨ret_u8 HE.out, rfl⟩
theorem net_bad {s : ByteArray} {k : Nat} (h : k < s.size) (hc : I.letB (s[k].toNat : Int) = false) : E.net (bys s) = false := by
  unfold E.net
  rw [part_bad h hc]; rfl
theorem net_good {s : ByteArray} (h : (bys s).all I.letB = true) : E.net (bys s) = decide (1 ≤ s.size ∧ s.size ≤ 8) := by
  unfold E.net
  rw [h, bys_len]; rfl
set_option maxHeartbeats 400000 in
theorem net24 (s : ByteArray) (hs : s.size ≤ 9223372036854775807) (w : World) : Calls Try.prog 24 #[.string s] w fun e w' => e = .returned (.bool (E.net (bys s))) ∧ w = w' := by
  go_enter Try.func24, Try.ntmps24
  go_wp2
  go_loop [3, 6] (fun _ i => ∃ k : Nat, k ≤ s.size ∧ i = .int .i64 k ∧ Hid (((bys s).take k).all I.letB = true)) (fun _ i => s.size - (intOf i).toNat)
  case atStart => exact ⟨0, Nat.zero_le _, rfl, Lib.hid (by rw [List.take_zero]; rfl)⟩
  case round =>
    obtain ⟨k, hk, rfl, HO⟩ := hrel
    by_cases hlt : k < s.size
    · have hsn := Lib.hid (bys_snoc s k hlt)
      cases hc : I.letB (s[k].toNat : Int)
      · have HB := Lib.hid (net_bad hlt hc)
        go_wp2_with (go_at_call 47; refine (plain47 _ _).mono ?_; rintro e w' ⟨rfl, rfl⟩)
        go_ret
        exact ⟨ret_bool HB.out.symm, rfl⟩
      · have HC := Lib.hid hc
        go_wp2_with (go_at_call 47; refine (plain47 _ _).mono ?_; rintro e w' ⟨rfl, rfl⟩)
        go_round
        case rel => exact ⟨k + 1, by omega, by go_num, Lib.hid (by rw [hsn.out, I.isPart_snoc, HO.out, HC.out]; rfl)⟩
        case measure => simp [intOf]; omega
    · have HF := Lib.hid (net_good (show (bys s).all I.letB = true by rw [← bys_all, ← HO.out]; congr 2; omega))
      by_cases g1 : 1 ≤ s.size
      · by_cases g2 : s.size ≤ 8
        · have HG := Lib.hid (show decide (1 ≤ s.size ∧ s.size ≤ 8) = true from decide_eq_true (by omega))
          have g4 : (1 : Int) ≤ (s.size : Int) := by omega
          have g3 : (s.size : Int) ≤ 8 := by omega
          go_wp2
          go_ret
          exact ⟨ret_bool (by rw [HF.out, HG.out]), rfl⟩
        · have HG := Lib.hid (show decide (1 ≤ s.size ∧ s.size ≤ 8) = false from decide_eq_false (by omega))
          have g3 : ¬ (s.size : Int) ≤ 8 := by omega
          go_wp2
          go_ret
          exact ⟨ret_bool (by rw [HF.out, HG.out]), rfl⟩
      · have HG := Lib.hid (show decide (1 ≤ s.size ∧ s.size ≤ 8) = false from decide_eq_false (by omega))
        have g3 : ¬ 1 ≤ (s.size : Int) := by omega
        go_wp2
        go_ret
        exact ⟨ret_bool (by rw [HF.out, HG.out]), rfl⟩
set_option maxHeartbeats 400000 in
theorem rnet28 (s : ByteArray) (hs : s.size ≤ 9223372036854775807) (w : World) : Calls Try.prog 28 #[.string s] w fun e w' => e = .returned (.bool (E.net (bys s))) ∧ w = w' := by
  go_enter Try.func28, Try.ntmps28
  go_wp2
  go_loop [3] (fun i => ∃ k : Nat, k ≤ s.size ∧ i = .int .i64 k ∧ Hid (((bys s).take k).all I.letB = true)) (fun i => s.size - (intOf i).toNat)
  case atStart => exact ⟨0, Nat.zero_le _, rfl, Lib.hid (by rw [List.take_zero]; rfl)⟩
  case round =>
    obtain ⟨k, hk, rfl, HO⟩ := hrel
    by_cases hlt : k < s.size
    · have hsn := Lib.hid (bys_snoc s k hlt)
      cases hc : I.letB (s[k].toNat : Int)
      · have HB := Lib.hid (net_bad hlt hc)
        go_wp2_with (go_at_call 51; refine (rplain51 _ _).mono ?_; rintro e w' ⟨rfl, rfl⟩)
        go_ret
        exact ⟨ret_bool HB.out.symm, rfl⟩
      · have HC := Lib.hid hc
        go_wp2_with (go_at_call 51; refine (rplain51 _ _).mono ?_; rintro e w' ⟨rfl, rfl⟩)
        go_round
        case rel => exact ⟨k + 1, by omega, by go_num, Lib.hid (by rw [hsn.out, I.isPart_snoc, HO.out, HC.out]; rfl)⟩
        case measure => simp [intOf]; omega
    · have HF := Lib.hid (net_good (show (bys s).all I.letB = true by rw [← bys_all, ← HO.out]; congr 2; omega))
      by_cases g1 : 1 ≤ s.size
      · by_cases g2 : s.size ≤ 8
        · have HG := Lib.hid (show decide (1 ≤ s.size ∧ s.size ≤ 8) = true from decide_eq_true (by omega))
          have g4 : (1 : Int) ≤ (s.size : Int) := by omega
          have g3 : (s.size : Int) ≤ 8 := by omega
          go_wp2
          go_ret
          exact ⟨ret_bool (by rw [HF.out, HG.out]), rfl⟩
        · have HG := Lib.hid (show decide (1 ≤ s.size ∧ s.size ≤ 8) = false from decide_eq_false (by omega))
          have g3 : ¬ (s.size : Int) ≤ 8 := by omega
          go_wp2
          go_ret
          exact ⟨ret_bool (by rw [HF.out, HG.out]), rfl⟩
      · have HG := Lib.hid (show decide (1 ≤ s.size ∧ s.size ≤ 8) = false from decide_eq_false (by omega))
        have g3 : ¬ 1 ≤ (s.size : Int) := by omega
        go_wp2
        go_ret
        exact ⟨ret_bool (by rw [HF.out, HG.out]), rfl⟩
end Go.Proofs.Ytkcceobncjoodaa
