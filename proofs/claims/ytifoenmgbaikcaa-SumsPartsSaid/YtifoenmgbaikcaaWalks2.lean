/- The walks of the sums' digits: what `digit` and `digitsOf` return. Conditions: none but that the digit lies below 16. -/
import Derived.Test.YtifoenmgbaikcaaWalks
namespace Go.Proofs.Ytifoenmgbaikcaa
open Go.RowKit
set_option linter.unusedVariables false

@[irreducible] def M.hexd (n : Int) : Int := if n < 10 then 48 + n else 87 + n
theorem M.hexd_lo (n : Int) (h : n < 10) : 48 + n = M.hexd n := by unfold M.hexd; rw [if_pos h]
theorem M.hexd_hi (n : Int) (h : 10 ≤ n) : 97 + n - 10 = M.hexd n := by unfold M.hexd; rw [if_neg (by omega)]; omega
theorem ret_u8 {a b : Int} (h : a = b) : Ending.returned (.int .u8 a) = .returned (.int .u8 b) := by rw [h]

set_option maxHeartbeats 400000 in
theorem digit_any (n : Int) (h0 : 0 ≤ n) (h1 : n < 16) (w : World) :
    Calls Try.prog 24 #[.int .u64 n] w fun e w' => e = .returned (.int .u8 (M.hexd n)) ∧ w = w' := by
  by_cases h : n < 10
  · go_enter Try.func24, Try.ntmps24
    go_wp2
    go_ret
    exact ⟨ret_u8 (M.hexd_lo n h), rfl⟩
  · have h : 10 ≤ n := by omega
    go_enter Try.func24, Try.ntmps24
    go_wp2
    go_ret
    exact ⟨ret_u8 (M.hexd_hi n h), rfl⟩

/-- The digit at place j of the 16 digits of m. -/
@[irreducible] def M.dg (m j : Nat) : Int := M.hexd ((m / 16 ^ (15 - j) % 16 : Nat) : Int)
/-- The 16 cells after k digits are written, from the last one on. -/
@[irreducible] def M.arr (m k : Nat) : Array Value := ((List.range 16).map fun j => if 15 - j < k then Value.int .u8 (M.dg m j) else .int .u8 0).toArray
theorem M.arr_zero (m : Nat) : M.arr m 0 = #[.int .u8 0, .int .u8 0, .int .u8 0, .int .u8 0, .int .u8 0, .int .u8 0, .int .u8 0, .int .u8 0, .int .u8 0, .int .u8 0, .int .u8 0, .int .u8 0, .int .u8 0, .int .u8 0, .int .u8 0, .int .u8 0] := by
  unfold M.arr; simp [List.range, List.range.loop]
/-- The 16 digits of m, as cells. -/
def M.digs (m : Nat) : Array Value := #[.int .u8 (M.dg m 0), .int .u8 (M.dg m 1), .int .u8 (M.dg m 2), .int .u8 (M.dg m 3), .int .u8 (M.dg m 4), .int .u8 (M.dg m 5), .int .u8 (M.dg m 6), .int .u8 (M.dg m 7), .int .u8 (M.dg m 8), .int .u8 (M.dg m 9), .int .u8 (M.dg m 10), .int .u8 (M.dg m 11), .int .u8 (M.dg m 12), .int .u8 (M.dg m 13), .int .u8 (M.dg m 14), .int .u8 (M.dg m 15)]
theorem M.arr_full (m : Nat) : M.arr m 16 = M.digs m := by
  unfold M.arr M.digs; simp [List.range, List.range.loop]
theorem M.arr_size (m k : Nat) : (M.arr m k).size = 16 := by unfold M.arr; simp
theorem M.arr_get (m k j : Nat) (h : j < 16) : (M.arr m k)[j]? = some (if 15 - j < k then Value.int .u8 (M.dg m j) else .int .u8 0) := by
  unfold M.arr; simp [h]
theorem M.arr_set (m k : Nat) (h : k < 16) : (M.arr m k).setIfInBounds (15 - k) (.int .u8 (M.dg m (15 - k))) = M.arr m (k + 1) := by
  apply Array.ext_getElem?
  intro j
  rw [Array.getElem?_setIfInBounds, M.arr_size]
  by_cases hj : j < 16
  · rw [M.arr_get _ _ _ hj, M.arr_get _ _ _ hj]
    by_cases e : 15 - k = j
    · subst e; rw [if_pos rfl, if_pos (by omega), if_pos (by omega)]
    · rw [if_neg e]
      by_cases e2 : 15 - j < k
      · rw [if_pos e2, if_pos (by omega)]
      · rw [if_neg e2, if_neg (by omega)]
  · rw [if_neg (by omega), Array.getElem?_eq_none (by rw [M.arr_size]; omega), Array.getElem?_eq_none (by rw [M.arr_size]; omega)]

set_option maxHeartbeats 400000 in
theorem digitsOf_any (n : Int) (w : World) :
    Calls Try.prog 21 #[.int .i64 n] w fun e w' => e = .returned (.agg (M.digs (M.lo n))) ∧ Below w.heap.size w w' := by
  have hini := M.and_mask_int n
  go_enter Try.func21, Try.ntmps21
  go_wp2
  clear hini
  have hs0 := M.lo_lt n
  go_loopw [4, 5, 9] (fun u _ i wr => ∃ k : Nat, k ≤ 16 ∧ i = .int .i64 k ∧ u = .int .u64 ((M.lo n / 16 ^ k : Nat) : Int) ∧ wr = (w.alloc (.cells (M.arr (M.lo n) 0) 38)).alloc (.cells (M.arr (M.lo n) k) 38)) (fun _ _ i _ => 16 - (intOf i).toNat)
  case atStart => exact ⟨0, Nat.zero_le _, rfl, by simp, by rw [M.arr_zero]⟩
  case round =>
    obtain ⟨k, hk, rfl, rfl, rfl⟩ := hrel
    by_cases hlt : k < 16
    · have hq : (((M.lo n / 16 ^ k : Nat) : Int)) ≤ 4611686018427387903 := by
        have := Nat.div_le_self (M.lo n) (16 ^ k); omega
      obtain ⟨v0, hg⟩ : ∃ v, (M.arr (M.lo n) k)[15 - k]? = some v := ⟨_, M.arr_get _ _ _ (by omega)⟩
      have hset := M.arr_set (M.lo n) k hlt
      have hdg : M.dg (M.lo n) (15 - k) = M.hexd (((M.lo n / 16 ^ k : Nat) : Int) % 16) := by
        unfold M.dg; rw [show 15 - (15 - k) = k from by omega]; rfl
      have hdiv : ((M.lo n / 16 ^ k : Nat) : Int) / 16 = ((M.lo n / 16 ^ (k + 1) : Nat) : Int) := by
        rw [Nat.pow_succ, ← Nat.div_div_eq_div_mul]; rfl
      rw [hdg] at hset
      have Hset := Lib.hid hset
      have Hdiv := Lib.hid hdiv
      clear hset hdg hdiv
      generalize M.lo n / 16 ^ k = q at *
      go_wp2_with (go_at_call 24; refine (digit_any _ (by omega) (by omega) _).mono ?_; rintro e w' ⟨rfl, rfl⟩)
      go_roundw
      case rel => exact ⟨k + 1, by omega, by go_num, by rw [← Hdiv.out], by rw [← Hset.out]⟩
      case measure => simp [intOf]; omega
    · have hke : k = 16 := by omega
      subst hke
      clear hlt hk
      rw [M.arr_full, M.arr_zero]
      unfold M.digs
      go_wp2
      exact bodyPost_ret (v := .agg (M.digs (M.lo n))) (by simp [results, Try.results21, go_sem, M.digs]) rfl ⟨rfl, ((Below.refl _ _).alloc (Nat.le_refl _) _).alloc (by simp) _⟩

end Go.Proofs.Ytifoenmgbaikcaa
