/- What the sums' `Unhex` returns for a text of 16 bytes: the number whose digits they are, or false. Condition: the text has 16 bytes. -/
import Derived.Test.YtifoenmgbaikcaaWalks4
namespace Go.Proofs.Ytifoenmgbaikcaa
open Go.RowKit
set_option linter.unusedVariables false

set_option maxHeartbeats 1600000 in
theorem unhex_yes (s : ByteArray) (hn : s.size = 16) (w : World) :
    Calls Try.prog 16 #[.string s] w fun e w' => e = .returned (unh s) ∧ Below w.heap.size w w' := by
  have hb : ((s.size : Int) != 16) = false := by rw [bne_eq_false_iff_eq]; omega
  have hs : s.size ≤ 16 := by omega
  have Hn := Lib.hid hn
  clear hn
  have Hl := Lib.hid (bys_len s)
  go_enter Try.func16, Try.ntmps16
  go_wp2
  go_loopw [5, 6, 10] (fun u _ i wr => ∃ (k : Nat) (n : Int), k ≤ 16 ∧ i = .int .i64 k ∧ u = .int .i64 n ∧ n % 4611686018427387904 = M.poly ((bys s).take k) % 4611686018427387904 ∧ wr = w.alloc (.cells (inp (bys s) k) 38)) (fun _ _ i _ => 16 - (intOf i).toNat)
  case atStart => exact ⟨0, 0, Nat.zero_le _, rfl, rfl, by rw [List.take_zero, M.poly_nil], by rw [inp_zero]⟩
  case round =>
    obtain ⟨k, n, hk, rfl, rfl, hmod, rfl⟩ := hrel
    have Hmod := Lib.hid hmod
    clear hmod
    by_cases hlt : k < 16
    · have hks : k < s.size := by have := Hn.out; omega
      have hg := bys_get s k hks
      have hset := inp_set (bys s) k hlt
      have hacc := M.acc_mod n _ (M.val ((bys s).getD k 0)) Hmod.out
      rw [← M.poly_take k (bys s) (by rw [Hl.out]; omega), hg] at hacc
      rw [hg] at hset
      obtain ⟨v0, hv0⟩ : ∃ v, (inp (bys s) k)[k]? = some v := ⟨_, inp_get _ _ _ (by omega)⟩
      have hc0 : (0 : Int) ≤ (s[k].toNat : Int) := by omega
      have hc1 : (s[k].toNat : Int) ≤ 255 := by have := s[k].toNat_lt; omega
      have Hset := Lib.hid hset
      have Hacc := Lib.hid hacc
      clear hset hacc hg
      go_wp2_with (go_at_call 22; refine (value_any _ (by omega) (by omega) _).mono ?_; rintro e w' ⟨rfl, rfl⟩)
      go_roundw
      case rel => exact ⟨k + 1, _, by omega, by go_num, rfl, Hacc.out, by rw [← Hset.out]⟩
      case measure => simp [intOf]; omega
    · have hke : k = 16 := by omega
      subst hke
      have hlo := M.lo_of_mod _ _ Hmod.out
      have hand := M.and_mask_i64 n
      have ht : (bys s).take 16 = bys s := List.take_of_length_le (by rw [Hl.out, Hn.out]; exact Nat.le_refl _)
      rw [hlo, ht] at hand
      have heq := equal_digs (M.lo ((M.lo (M.poly (bys s)) : Nat) : Int)) (bys s) (by rw [Hl.out, Hn.out])
      have Hll := Lib.hid (M.lo_nat (M.lo (M.poly (bys s))) (M.lo_lt _))
      clear hlt hk ht hlo
      rw [inp_full]
      go_wp2
      clear hand
      unfold M.digs at heq
      have hfin : unh s = if M.dgl (M.lo (M.poly (bys s))) = bys s then .tuple #[.int .i64 ((M.lo (M.poly (bys s)) : Nat) : Int), .bool true] else .tuple #[.int .i64 0, .bool false] := rfl
      by_cases hE : M.dgl (M.lo (M.poly (bys s))) = bys s
      · rw [if_pos hE] at hfin
        have hbool : (M.dgl (M.lo ((M.lo (M.poly (bys s)) : Nat) : Int)) == bys s) = true := by rw [Hll.out]; exact beq_iff_eq.2 hE
        rw [hbool] at heq
        have Hfin := Lib.hid hfin
        clear hfin hE hbool
        go_region_with (go_at_call 21; refine (digitsOf_any _ _).mono ?_; unfold M.digs; rintro e w1 ⟨rfl, hb1⟩; obtain ⟨hc1, hf1⟩ := bcell hb1)
        all_goals go_wp2
        all_goals go_ret2
        all_goals (rw [Hfin.out]; refine ⟨rfl, ?_⟩)
        all_goals exact Below.trans (by repeat (first | exact (Below.refl _ _).alloc (Nat.le_refl _) _ | apply Below.drew)) (hb1.mono (by simp))
      · rw [if_neg hE] at hfin
        have hbool : (M.dgl (M.lo ((M.lo (M.poly (bys s)) : Nat) : Int)) == bys s) = false := by rw [Hll.out]; exact beq_eq_false_iff_ne.2 hE
        rw [hbool] at heq
        have Hfin := Lib.hid hfin
        clear hfin hE hbool
        go_region_with (go_at_call 21; refine (digitsOf_any _ _).mono ?_; unfold M.digs; rintro e w1 ⟨rfl, hb1⟩; obtain ⟨hc1, hf1⟩ := bcell hb1)
        all_goals go_wp2
        all_goals go_ret2
        all_goals (rw [Hfin.out]; refine ⟨rfl, ?_⟩)
        all_goals exact Below.trans (by repeat (first | exact (Below.refl _ _).alloc (Nat.le_refl _) _ | apply Below.drew)) (hb1.mono (by simp))
end Go.Proofs.Ytifoenmgbaikcaa
