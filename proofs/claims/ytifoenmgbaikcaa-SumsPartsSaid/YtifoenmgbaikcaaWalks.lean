/- The walks of the sums: what each function of the program and of the reference returns, said of every world. -/
import Derived.Test.YtifoenmgbaikcaaRows
import Derived.Test.YtifoenmgbaikcaaMath
import Derived.WalkKit
import Derived.WalkSpells
import Derived.WalkLawsBesides
import Derived.Lib.Hide
namespace Go.Proofs.Ytifoenmgbaikcaa
open Go.RowKit
set_option linter.unusedVariables false

/-- The slice of bytes at `a` has `len` elements, which are `zs`. -/
def Byt (w : World) (a : Option Addr) (len : Nat) (zs : List Int) : Prop :=
  zs.length = len ∧ (∀ z ∈ zs, 0 ≤ z ∧ z ≤ 255) ∧ len ≤ 9223372036854775807 ∧
    (0 < len → ∃ b off, a = some ⟨b, off, none⟩ ∧ b < w.heap.size ∧ ∀ i, i < len → w.cell? ⟨b, off + i, none⟩ = some (.int .u8 (zs.getD i 0)))

theorem Byt.byte {w : World} {a : Option Addr} {len : Nat} {zs : List Int} (h : Byt w a len zs) {k : Nat} (hk : k < len) :
    ∃ b off, a = some ⟨b, off, none⟩ ∧ ∃ z : Nat, z ≤ 255 ∧ (zs.getD k 0).toNat = z ∧ w.cell? ⟨b, off + k, none⟩ = some (.int .u8 (z : Int)) := by
  obtain ⟨hl, hb, _, hc⟩ := h
  obtain ⟨b, off, ha, _, hc⟩ := hc (by omega)
  have hm : zs.getD k 0 ∈ zs := by
    rw [List.getD_eq_getElem?_getD, List.getElem?_eq_getElem (by omega)]; simp
  have hz := hb _ hm
  refine ⟨b, off, ha, (zs.getD k 0).toNat, by omega, rfl, ?_⟩
  rw [hc k hk]
  congr 2
  omega

set_option maxHeartbeats 400000 in
theorem fold_any (h : Int) (a : Option Addr) (len cap : Nat) (zs : List Int) (w : World) (hb : Byt w a len zs) :
    Calls Try.prog 10 #[.int .i64 h, .slice a len cap] w fun e w' => e = .returned (.int .i64 ((M.fold (M.lo h) zs : Nat) : Int)) ∧ w = w' := by
  have hlen : len ≤ 9223372036854775807 := hb.2.2.1
  have hzl : zs.length = len := hb.1
  have hini := M.and_mask_int h
  go_enter Try.func10, Try.ntmps10
  go_wp2
  clear hini
  have hs0 := M.lo_lt h
  go_loop [5, 7, 13] (fun u _ i => ∃ k : Nat, k ≤ len ∧ i = .int .i64 k ∧ u = .int .u64 ((M.fold (M.lo h) (zs.take k) : Nat) : Int)) (fun _ _ i => len - (intOf i).toNat)
  case atStart => exact ⟨0, Nat.zero_le _, rfl, by rw [List.take_zero, M.fold_nil]⟩
  case round =>
    obtain ⟨k, hk, rfl, rfl⟩ := hrel
    have hfl := M.fold_lt (M.lo h) (zs.take k) hs0
    by_cases hlt : k < len
    · obtain ⟨b, off, rfl, z, hz, hzk, hcell⟩ := hb.byte hlt
      have hst := M.step_eq (M.fold (M.lo h) (zs.take k)) z hfl (by omega)
      go_wp2
      go_round
      case rel => exact ⟨k + 1, by omega, by go_num, by rw [M.fold_take _ _ _ (by omega), hzk]⟩
      case measure => simp [intOf]; omega
    · have hf : ((M.fold (M.lo h) zs : Nat) : Int) ≤ 9223372036854775807 := by have := M.fold_lt (M.lo h) zs hs0; omega
      have hke : k = len := by omega
      have ht : zs.take k = zs := by rw [List.take_of_length_le (by omega)]
      rw [ht]
      clear hke ht
      go_wp2
      go_ret
      exact ⟨rfl, rfl⟩

set_option maxHeartbeats 400000 in
theorem rfold_any (h : Int) (a : Option Addr) (len cap : Nat) (zs : List Int) (w : World) (hb : Byt w a len zs) :
    Calls Try.prog 11 #[.int .i64 h, .slice a len cap] w fun e w' => e = .returned (.int .i64 ((M.fold (M.lo h) zs : Nat) : Int)) ∧ w = w' := by
  have hlen : len ≤ 9223372036854775807 := hb.2.2.1
  have hzl : zs.length = len := hb.1
  have hnn := M.wrap_nonneg h
  go_enter Try.func11, Try.ntmps11
  go_wp2
  clear hnn
  have hs0 := M.lo_lt h
  go_loop [5, 6] (fun u i => ∃ k : Nat, k ≤ len ∧ i = .int .i64 k ∧ u = .int .u64 ((M.fold (M.lo h) (zs.take k) : Nat) : Int)) (fun _ i => len - (intOf i).toNat)
  case atStart => exact ⟨0, Nat.zero_le _, rfl, by rw [M.wrap_mod, List.take_zero, M.fold_nil]⟩
  case round =>
    obtain ⟨k, hk, rfl, rfl⟩ := hrel
    have hfl := M.fold_lt (M.lo h) (zs.take k) hs0
    by_cases hlt : k < len
    · obtain ⟨b, off, rfl, z, hz, hzk, hcell⟩ := hb.byte hlt
      have hnn := M.wrap_nonneg (bits .xor .u64 ((M.fold (M.lo h) (zs.take k) : Nat) : Int) (z : Int) * 1099511628211)
      go_wp2
      go_round
      case rel => exact ⟨k + 1, by omega, by go_num, by rw [M.fold_take _ _ _ (by omega), hzk, M.step_mod _ _ hfl (by omega)]⟩
      case measure => simp [intOf]; omega
    · have hf : ((M.fold (M.lo h) zs : Nat) : Int) ≤ 9223372036854775807 := by have := M.fold_lt (M.lo h) zs hs0; omega
      have hke : k = len := by omega
      have ht : zs.take k = zs := by rw [List.take_of_length_le (by omega)]
      rw [ht]
      clear hke ht
      go_wp2
      go_ret
      exact ⟨rfl, rfl⟩

/-- The sum of no bytes. -/
def start : Nat := 860922984064492325
theorem lo_start : M.lo 860922984064492325 = start := M.lo_nat 860922984064492325 (by decide)

set_option maxHeartbeats 400000 in
theorem sum_any (a : Option Addr) (len cap : Nat) (zs : List Int) (w : World) (hb : Byt w a len zs) :
    Calls Try.prog 12 #[.slice a len cap] w fun e w' => e = .returned (.int .i64 ((M.fold (M.lo 860922984064492325) zs : Nat) : Int)) ∧ w = w' := by
  go_enter Try.func12, Try.ntmps12
  go_wp2_with (go_at_call 10; refine (fold_any _ _ _ _ zs _ hb).mono ?_; rintro e w' ⟨rfl, rfl⟩)
  go_ret
  exact ⟨rfl, rfl⟩

set_option maxHeartbeats 400000 in
theorem rsum_any (a : Option Addr) (len cap : Nat) (zs : List Int) (w : World) (hb : Byt w a len zs) :
    Calls Try.prog 13 #[.slice a len cap] w fun e w' => e = .returned (.int .i64 ((M.fold (M.lo 860922984064492325) zs : Nat) : Int)) ∧ w = w' := by
  go_enter Try.func13, Try.ntmps13
  go_wp2_with (first | (go_at_call 11; refine (rfold_any _ _ _ _ zs _ hb).mono ?_; rintro e w' ⟨rfl, rfl⟩) | (go_at_call 20; go_in))
  go_ret
  exact ⟨rfl, rfl⟩
end Go.Proofs.Ytifoenmgbaikcaa
