/- The walks of the patterns' small functions, further: Check of the reference, Plain and Least of both, for every text. -/
import Derived.Test.YtbaghejoolemlaaW1
namespace Go.Proofs.Ytbaghejoolemlaa
open Go.RowKit
set_option linter.unusedVariables false

theorem byte_lt (s : ByteArray) (k : Nat) (h : k < s.size) : 0 ≤ (s[k].toNat : Int) ∧ (s[k].toNat : Int) ≤ 255 := ⟨by omega, by have := s[k].toNat_lt; omega⟩

set_option maxHeartbeats 400000 in
theorem rcheck_any (s : ByteArray) (hs : s.size ≤ 9223372036854775807) (w : World) :
    Calls Try.prog 11 #[.string s] w fun e w' => e = .returned (.int .i64 (chk (bys s))) ∧ w = w' := by
  by_cases h0 : s.size = 0
  · have e0 : ((s.size : Int) == 0) = true := beq_iff_eq.2 (by omega)
    have HF : Hid (chk (bys s) = 9) := Lib.hid (by unfold chk; rw [if_pos (by rw [bys_len]; exact h0)])
    clear h0
    go_enter Try.func11, Try.ntmps11
    go_wp2
    go_ret
    exact ⟨ret_i64 HF.out.symm, rfl⟩
  · have e0 : ((s.size : Int) == 0) = false := beq_eq_false_iff_ne.2 (by omega)
    by_cases h1 : 64 < s.size
    · have HF : Hid (chk (bys s) = 7) := Lib.hid (by unfold chk; rw [if_neg (by rw [bys_len]; exact h0), if_pos (by rw [bys_len]; exact h1)])
      clear h0
      go_enter Try.func11, Try.ntmps11
      go_wp2
      go_ret
      exact ⟨ret_i64 HF.out.symm, rfl⟩
    · have HF : Hid (chk (bys s) = if okb (bys s) then 0 else 3) := Lib.hid (by unfold chk; rw [if_neg (by rw [bys_len]; exact h0), if_neg (by rw [bys_len]; exact h1)])
      have h1 : s.size ≤ 64 := by omega
      clear h0
      go_enter Try.func11, Try.ntmps11
      go_wp2
      go_loop [3] (fun i => ∃ k : Nat, k ≤ s.size ∧ i = .int .i64 k ∧ Hid (okb ((bys s).take k) = true)) (fun i => s.size - (intOf i).toNat)
      case atStart => exact ⟨0, Nat.zero_le _, rfl, Lib.hid (by rw [List.take_zero]; rfl)⟩
      case round =>
        obtain ⟨k, hk, rfl, HO⟩ := hrel
        by_cases hlt : k < s.size
        · have hsn := Lib.hid (bys_snoc s k hlt)
          have HB := Lib.hid (okb_bad s k hlt)
          by_cases hc : 33 ≤ (s[k].toNat : Int) ∧ (s[k].toNat : Int) ≤ 126
          · obtain ⟨hc1, hc2⟩ := hc
            go_wp2
            go_round
            case rel => exact ⟨k + 1, by omega, by go_num, Lib.hid (by rw [hsn.out, okb_snoc, HO.out]; simp; omega)⟩
            case measure => simp [intOf]; omega
          · have HC := Lib.hid hc
            rcases (show (s[k].toNat : Int) < 33 ∨ (33 ≤ (s[k].toNat : Int) ∧ 126 < (s[k].toNat : Int)) by omega) with hd | ⟨hd, hd2⟩
            all_goals
              clear hc
              go_wp2
              go_ret
              exact ⟨ret_i64 (by rw [HF.out, HB.out HC.out]; rfl), rfl⟩
        · have HF2 := Lib.hid (show okb (bys s) = true by rw [← bys_all, ← HO.out]; congr 2; omega)
          go_wp2
          go_ret
          exact ⟨ret_i64 (by rw [HF.out, HF2.out]; rfl), rfl⟩

/-- No byte is a wildcard. -/
def plb (p : List Int) : Bool := p.all fun c => decide (c ≠ 42 ∧ c ≠ 63)
theorem plb_snoc (p : List Int) (c : Int) : plb (p ++ [c]) = (plb p && decide (c ≠ 42 ∧ c ≠ 63)) := by simp [plb]
theorem plb_bad (s : ByteArray) (k : Nat) (h : k < s.size) (hc : (s[k].toNat : Int) = 42 ∨ (s[k].toNat : Int) = 63) : plb (bys s) = false := by
  have hm : (s[k].toNat : Int) ∈ bys s := by rw [← bys_getE s k h]; exact List.getElem_mem _
  unfold plb
  rw [List.all_eq_false]
  exact ⟨_, hm, by simp; omega⟩

set_option maxHeartbeats 400000 in
theorem plain_any (s : ByteArray) (hs : s.size ≤ 9223372036854775807) (w : World) :
    Calls Try.prog 12 #[.string s] w fun e w' => e = .returned (.bool (plb (bys s))) ∧ w = w' := by
  go_enter Try.func12, Try.ntmps12
  go_wp2
  go_loop [3, 6] (fun _ i => ∃ k : Nat, k ≤ s.size ∧ i = .int .i64 k ∧ Hid (plb ((bys s).take k) = true)) (fun _ i => s.size - (intOf i).toNat)
  case atStart => exact ⟨0, Nat.zero_le _, rfl, Lib.hid (by rw [List.take_zero]; rfl)⟩
  case round =>
    obtain ⟨k, hk, rfl, HO⟩ := hrel
    by_cases hlt : k < s.size
    · have hsn := Lib.hid (bys_snoc s k hlt)
      have HB := Lib.hid (plb_bad s k hlt)
      have hbl := byte_lt s k hlt
      obtain ⟨hb0, hb1⟩ := hbl
      by_cases hc : (s[k].toNat : Int) = 42
      · have HC := Lib.hid hc
        have e1 : ((s[k].toNat : Int) == 42) = true := beq_iff_eq.2 hc
        clear hc
        go_wp2
        go_ret
        exact ⟨ret_bool (HB.out (.inl HC.out)).symm, rfl⟩
      · have HC := Lib.hid hc
        have e1 : ((s[k].toNat : Int) == 42) = false := beq_eq_false_iff_ne.2 hc
        clear hc
        by_cases hd : (s[k].toNat : Int) = 63
        · have HD := Lib.hid hd
          have e2 : ((s[k].toNat : Int) == 63) = true := beq_iff_eq.2 hd
          clear hd
          go_wp2
          go_ret
          exact ⟨ret_bool (HB.out (.inr HD.out)).symm, rfl⟩
        · have HD := Lib.hid hd
          have e2 : ((s[k].toNat : Int) == 63) = false := beq_eq_false_iff_ne.2 hd
          clear hd
          go_wp2
          go_round
          case rel => exact ⟨k + 1, by omega, by go_num, Lib.hid (by rw [hsn.out, plb_snoc, HO.out]; simp; exact ⟨HC.out, HD.out⟩)⟩
          case measure => simp [intOf]; omega
    · have HF2 := Lib.hid (show plb (bys s) = true by rw [← bys_all, ← HO.out]; congr 2; omega)
      go_wp2
      go_ret
      exact ⟨ret_bool HF2.out.symm, rfl⟩

set_option maxHeartbeats 400000 in
theorem rplain_any (s : ByteArray) (hs : s.size ≤ 9223372036854775807) (w : World) :
    Calls Try.prog 13 #[.string s] w fun e w' => e = .returned (.bool (plb (bys s))) ∧ w = w' := by
  go_enter Try.func13, Try.ntmps13
  go_wp2
  go_loop [3] (fun i => ∃ k : Nat, k ≤ s.size ∧ i = .int .i64 k ∧ Hid (plb ((bys s).take k) = true)) (fun i => s.size - (intOf i).toNat)
  case atStart => exact ⟨0, Nat.zero_le _, rfl, Lib.hid (by rw [List.take_zero]; rfl)⟩
  case round =>
    obtain ⟨k, hk, rfl, HO⟩ := hrel
    by_cases hlt : k < s.size
    · have hsn := Lib.hid (bys_snoc s k hlt)
      have HB := Lib.hid (plb_bad s k hlt)
      have hbl := byte_lt s k hlt
      obtain ⟨hb0, hb1⟩ := hbl
      by_cases hc : (s[k].toNat : Int) = 42
      · have HC := Lib.hid hc
        have e1 : ((s[k].toNat : Int) == 42) = true := beq_iff_eq.2 hc
        clear hc
        go_wp2
        go_ret
        exact ⟨ret_bool (HB.out (.inl HC.out)).symm, rfl⟩
      · have HC := Lib.hid hc
        have e1 : ((s[k].toNat : Int) == 42) = false := beq_eq_false_iff_ne.2 hc
        clear hc
        by_cases hd : (s[k].toNat : Int) = 63
        · have HD := Lib.hid hd
          have e2 : ((s[k].toNat : Int) == 63) = true := beq_iff_eq.2 hd
          clear hd
          go_wp2
          go_ret
          exact ⟨ret_bool (HB.out (.inr HD.out)).symm, rfl⟩
        · have HD := Lib.hid hd
          have e2 : ((s[k].toNat : Int) == 63) = false := beq_eq_false_iff_ne.2 hd
          clear hd
          go_wp2
          go_round
          case rel => exact ⟨k + 1, by omega, by go_num, Lib.hid (by rw [hsn.out, plb_snoc, HO.out]; simp; exact ⟨HC.out, HD.out⟩)⟩
          case measure => simp [intOf]; omega
    · have HF2 := Lib.hid (show plb (bys s) = true by rw [← bys_all, ← HO.out]; congr 2; omega)
      go_wp2
      go_ret
      exact ⟨ret_bool HF2.out.symm, rfl⟩

theorem least_take (p : List Int) (k : Nat) : G.least (p.take k) ≤ k := Nat.le_trans (G.least_le _) (List.length_take_le _ _)

set_option maxHeartbeats 400000 in
theorem least_any (s : ByteArray) (hs : s.size ≤ 9223372036854775807) (w : World) :
    Calls Try.prog 14 #[.string s] w fun e w' => e = .returned (.int .i64 (G.least (bys s))) ∧ w = w' := by
  go_enter Try.func14, Try.ntmps14
  go_wp2
  go_loop [3, 4, 7] (fun n _ i => ∃ k m : Nat, k ≤ s.size ∧ i = .int .i64 k ∧ m ≤ k ∧ n = .int .i64 m ∧ Hid (m = G.least ((bys s).take k))) (fun _ _ i => s.size - (intOf i).toNat)
  case atStart => exact ⟨0, 0, Nat.zero_le _, rfl, Nat.le_refl _, rfl, Lib.hid (by rw [List.take_zero]; rfl)⟩
  case round =>
    obtain ⟨k, m, hk, rfl, hm, rfl, HM⟩ := hrel
    by_cases hlt : k < s.size
    · have hsn := Lib.hid (bys_snoc s k hlt)
      have hbl := byte_lt s k hlt
      obtain ⟨hb0, hb1⟩ := hbl
      by_cases hc : (s[k].toNat : Int) = 42
      · have HC := Lib.hid hc
        have e1 : ((s[k].toNat : Int) != 42) = false := by rw [bne_eq_false_iff_eq]; exact hc
        clear hc
        go_wp2
        go_round
        case rel => exact ⟨k + 1, m, by omega, by go_num, by omega, rfl, Lib.hid (by rw [hsn.out, G.least_snoc, if_pos HC.out, HM.out]; rfl)⟩
        case measure => simp [intOf]; omega
      · have HC := Lib.hid hc
        have e1 : ((s[k].toNat : Int) != 42) = true := by rw [bne_iff_ne]; exact hc
        clear hc
        go_wp2
        go_round
        case rel => exact ⟨k + 1, m + 1, by omega, by go_num, by omega, by go_num, Lib.hid (by rw [hsn.out, G.least_snoc, if_neg HC.out, HM.out])⟩
        case measure => simp [intOf]; omega
    · have HF2 := Lib.hid (show m = G.least (bys s) by rw [← bys_all, HM.out]; congr 2; omega)
      go_wp2
      go_ret
      exact ⟨ret_i64 (by rw [← HF2.out]), rfl⟩

set_option maxHeartbeats 400000 in
theorem rleast_any (s : ByteArray) (hs : s.size ≤ 9223372036854775807) (w : World) :
    Calls Try.prog 15 #[.string s] w fun e w' => e = .returned (.int .i64 (G.least (bys s))) ∧ w = w' := by
  go_enter Try.func15, Try.ntmps15
  go_wp2
  go_loop [3, 4] (fun n i => ∃ k m : Nat, k ≤ s.size ∧ i = .int .i64 k ∧ m ≤ k ∧ n = .int .i64 m ∧ Hid (m = G.least ((bys s).take k))) (fun _ i => s.size - (intOf i).toNat)
  case atStart => exact ⟨0, 0, Nat.zero_le _, rfl, Nat.le_refl _, rfl, Lib.hid (by rw [List.take_zero]; rfl)⟩
  case round =>
    obtain ⟨k, m, hk, rfl, hm, rfl, HM⟩ := hrel
    by_cases hlt : k < s.size
    · have hsn := Lib.hid (bys_snoc s k hlt)
      have hbl := byte_lt s k hlt
      obtain ⟨hb0, hb1⟩ := hbl
      by_cases hc : (s[k].toNat : Int) = 42
      · have HC := Lib.hid hc
        have e1 : ((s[k].toNat : Int) != 42) = false := by rw [bne_eq_false_iff_eq]; exact hc
        clear hc
        go_wp2
        go_round
        case rel => exact ⟨k + 1, m, by omega, by go_num, by omega, rfl, Lib.hid (by rw [hsn.out, G.least_snoc, if_pos HC.out, HM.out]; rfl)⟩
        case measure => simp [intOf]; omega
      · have HC := Lib.hid hc
        have e1 : ((s[k].toNat : Int) != 42) = true := by rw [bne_iff_ne]; exact hc
        clear hc
        go_wp2
        go_round
        case rel => exact ⟨k + 1, m + 1, by omega, by go_num, by omega, by go_num, Lib.hid (by rw [hsn.out, G.least_snoc, if_neg HC.out, HM.out])⟩
        case measure => simp [intOf]; omega
    · have HF2 := Lib.hid (show m = G.least (bys s) by rw [← bys_all, HM.out]; congr 2; omega)
      go_wp2
      go_ret
      exact ⟨ret_i64 (by rw [← HF2.out]), rfl⟩
end Go.Proofs.Ytbaghejoolemlaa
