/- The walks of the patterns' small functions, further: Check of the reference, Plain and Least of both, for every text. -/
import Derived.Test.YtokofmolbdpklaaGL1
namespace Go.Proofs.Ytokofmolbdpklaa.GL
open Go.RowKit
set_option linter.unusedVariables false

theorem byte_lt (s : ByteArray) (k : Nat) (h : k < s.size) : 0 ≤ (s[k].toNat : Int) ∧ (s[k].toNat : Int) ≤ 255 := ⟨by omega, by have := s[k].toNat_lt; omega⟩

set_option maxHeartbeats 400000 in
theorem rcheck_any (s : ByteArray) (hs : s.size ≤ 9223372036854775807) (w : World) :
    Calls Try.prog 34 #[.string s] w fun e w' => e = .returned (.int .i64 (chk (bys s))) ∧ w = w' := by
  by_cases h0 : s.size = 0
  · have e0 : ((s.size : Int) == 0) = true := beq_iff_eq.2 (by omega)
    have HF : Hid (chk (bys s) = 9) := Lib.hid (by unfold chk; rw [if_pos (by rw [bys_len]; exact h0)])
    clear h0
    go_enter Try.func34, Try.ntmps34
    go_wp2
    go_ret
    exact ⟨ret_i64 HF.out.symm, rfl⟩
  · have e0 : ((s.size : Int) == 0) = false := beq_eq_false_iff_ne.2 (by omega)
    by_cases h1 : 64 < s.size
    · have HF : Hid (chk (bys s) = 7) := Lib.hid (by unfold chk; rw [if_neg (by rw [bys_len]; exact h0), if_pos (by rw [bys_len]; exact h1)])
      clear h0
      go_enter Try.func34, Try.ntmps34
      go_wp2
      go_ret
      exact ⟨ret_i64 HF.out.symm, rfl⟩
    · have HF : Hid (chk (bys s) = if okb (bys s) then 0 else 3) := Lib.hid (by unfold chk; rw [if_neg (by rw [bys_len]; exact h0), if_neg (by rw [bys_len]; exact h1)])
      have h1 : s.size ≤ 64 := by omega
      clear h0
      go_enter Try.func34, Try.ntmps34
      go_wp2
      go_loop [3] (fun i => ∃ k : Nat, k ≤ s.size ∧ i = .int .i64 k ∧ Hid (okb ((bys s).take k) = true)) (fun i => s.size - (intOf i).toNat)
      case atStart => exact ⟨0, Nat.zero_le _, rfl, Lib.hid (by rw [List.take_zero]; rfl)⟩
      case round =>
        obtain ⟨k, hk, rfl, HO⟩ := hrel
        by_cases hlt : k < s.size
        · have hsn := Lib.hid (bys_snoc s k hlt)
          have HB := Lib.hid (okb_bad s k hlt)
          by_cases hc : 33 ≤ (s[k].toNat : Int) ∧ (s[k].toNat : Int) ≤ 126
          · obtain ⟨hc1, hc2⟩ := hc
            go_wp2
            go_round
            case rel => exact ⟨k + 1, by omega, by go_num, Lib.hid (by rw [hsn.out, okb_snoc, HO.out]; simp; omega)⟩
            case measure => simp [intOf]; omega
          · have HC := Lib.hid hc
            rcases (show (s[k].toNat : Int) < 33 ∨ (33 ≤ (s[k].toNat : Int) ∧ 126 < (s[k].toNat : Int)) by omega) with hd | ⟨hd, hd2⟩
            all_goals
              clear hc
              go_wp2
              go_ret
              exact ⟨ret_i64 (by rw [HF.out, HB.out HC.out]; rfl), rfl⟩
        · have HF2 := Lib.hid (show okb (bys s) = true by rw [← bys_all, ← HO.out]; congr 2; omega)
          go_wp2
          go_ret
          exact ⟨ret_i64 (by rw [HF.out, HF2.out]; rfl), rfl⟩

end Go.Proofs.Ytokofmolbdpklaa.GL
