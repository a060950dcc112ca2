/- Plain arithmetic behind the sums: the step of the sum, its bounds, and that it is injective. No condition. -/
import Derived.Test.YtablocpcgknmaaaGreatDoorRows
import Derived.Laws.Bits64
import Derived.WalkKit
import Derived.WalkSpells
import Derived.WalkLawsBesides
import Derived.Lib.Hide
open Go
namespace Go.Proofs.YtablocpcgknmaaaGreatDoor.Su.M
set_option maxRecDepth 100000

@[irreducible] def st (s c : Nat) : Nat := (s ^^^ c) * 1099511628211 % 4611686018427387904
def fold (s : Nat) (l : List Int) : Nat := l.foldl (fun s c => st s c.toNat) s
theorem st_lt (s c : Nat) : st s c < 4611686018427387904 := by unfold st; omega
theorem fold_nil (s : Nat) : fold s [] = s := rfl
theorem fold_cons (s : Nat) (c : Int) (l : List Int) : fold s (c :: l) = fold (st s c.toNat) l := by simp only [fold, List.foldl_cons]
theorem fold_append (s : Nat) (l r : List Int) : fold s (l ++ r) = fold (fold s l) r := by simp only [fold, List.foldl_append]
theorem fold_snoc (s : Nat) (l : List Int) (c : Int) : fold s (l ++ [c]) = st (fold s l) c.toNat := by rw [fold_append, fold_cons, fold_nil]
theorem fold_lt (s : Nat) (l : List Int) (h : s < 4611686018427387904) : fold s l < 4611686018427387904 := by
 induction l generalizing s with
 | nil => exact h
 | cons c l ih => rw [fold_cons]; exact ih _ (st_lt _ _)
theorem fold_take (s k : Nat) (l : List Int) (h : k < l.length) : fold s (l.take (k + 1)) = st (fold s (l.take k)) (l.getD k 0).toNat := by
 rw [List.take_succ_eq_append_getElem h, fold_snoc]
 simp [List.getD, h]

/-- The number that a sum starts from: the low 62 bits. -/
@[irreducible] def lo (h : Int) : Nat := (h % 4611686018427387904).toNat
theorem lo_lt (h : Int) : lo h < 4611686018427387904 := by unfold lo; omega
theorem and_mask (a : Nat) (ha : a < 18446744073709551616) : bits .and .u64 (a : Int) 4611686018427387903 = ((a % 4611686018427387904 : Nat) : Int) := by
 have h1 : (BitVec.ofInt 64 (a : Int)).toNat = a := by
  rw [BitVec.ofInt_natCast, BitVec.toNat_ofNat]; exact Nat.mod_eq_of_lt (by omega)
 have h2 : (BitVec.ofInt 64 (4611686018427387903 : Int)).toNat = 4611686018427387903 := by decide
 show IntKind.u64.wrap ((BitVec.ofInt 64 (a : Int) &&& BitVec.ofInt 64 4611686018427387903).toNat : Int) = _
 rw [BitVec.toNat_and, h1, h2, IntKind.wrap_u64]
 rw [show (4611686018427387903 : Nat) = 2 ^ 62 - 1 from by decide, Nat.and_two_pow_sub_one_eq_mod]
 rw [show (2 : Nat) ^ 62 = 4611686018427387904 from by decide]
 omega
theorem and_mask_int (h : Int) : bits .and .u64 (IntKind.u64.wrap h) 4611686018427387903 = ((lo h : Nat) : Int) := by
 obtain ⟨n, hn⟩ := Int.eq_ofNat_of_zero_le (a := IntKind.u64.wrap h) (by rw [IntKind.wrap_u64]; omega)
 have hb : n < 18446744073709551616 := by rw [IntKind.wrap_u64] at hn; omega
 rw [hn, and_mask n hb]
 rw [IntKind.wrap_u64] at hn
 unfold lo
 omega
theorem lo_step (s c : Nat) : lo (((s ^^^ c : Nat) : Int) * 1099511628211) = st s c := by
 have e : ∀ z : Nat, ((z : Int) * 1099511628211 % 4611686018427387904).toNat = z * 1099511628211 % 4611686018427387904 := by
  intro z
  have e2 : ((z * 1099511628211 % 4611686018427387904 : Nat) : Int) = (z : Int) * 1099511628211 % 4611686018427387904 := by
   rw [Int.natCast_emod, Int.natCast_mul]; rfl
  rw [← e2, Int.toNat_natCast]
 rw [lo, st, e]
theorem step_eq (s c : Nat) (hs : s < 4611686018427387904) (hc : c < 256) :
  bits .and .u64 (IntKind.u64.wrap (bits .xor .u64 (s : Int) (c : Int) * 1099511628211)) 4611686018427387903 = ((st s c : Nat) : Int) := by
 rw [bits_xor_u64_nat s c (by omega) (by omega), and_mask_int, lo_step]
end Go.Proofs.YtablocpcgknmaaaGreatDoor.Su.M
/- The walks of the sums: what each function of the program and of the reference returns, said of every world. -/
namespace Go.Proofs.YtablocpcgknmaaaGreatDoor.Su
set_option maxRecDepth 100000
open Go.RowKit
set_option linter.unusedVariables false

/-- The slice of bytes at `a` has `len` elements, which are `zs`. -/
def Byt (w : World) (a : Option Addr) (len : Nat) (zs : List Int) : Prop :=
 zs.length = len ∧ (∀ z ∈ zs, 0 ≤ z ∧ z ≤ 255) ∧ len ≤ 9223372036854775807 ∧
  (0 < len → ∃ b off, a = some ⟨b, off, none⟩ ∧ b < w.heap.size ∧ ∀ i, i < len → w.cell? ⟨b, off + i, none⟩ = some (.int .u8 (zs.getD i 0)))

theorem Byt.byte {w : World} {a : Option Addr} {len : Nat} {zs : List Int} (h : Byt w a len zs) {k : Nat} (hk : k < len) :
  ∃ b off, a = some ⟨b, off, none⟩ ∧ ∃ z : Nat, z ≤ 255 ∧ (zs.getD k 0).toNat = z ∧ w.cell? ⟨b, off + k, none⟩ = some (.int .u8 (z : Int)) := by
 obtain ⟨hl, hb, _, hc⟩ := h
 obtain ⟨b, off, ha, _, hc⟩ := hc (by omega)
 have hm : zs.getD k 0 ∈ zs := by
  rw [List.getD_eq_getElem?_getD, List.getElem?_eq_getElem (by omega)]; simp
 have hz := hb _ hm
 refine ⟨b, off, ha, (zs.getD k 0).toNat, by omega, rfl, ?_⟩
 rw [hc k hk]
 congr 2
 omega

set_option maxHeartbeats 400000 in
theorem fold_any (h : Int) (a : Option Addr) (len cap : Nat) (zs : List Int) (w : World) (hb : Byt w a len zs) :
  Calls Tryz.prog 113 #[.int .i64 h, .slice a len cap] w fun e w' => e = .returned (.int .i64 ((M.fold (M.lo h) zs : Nat) : Int)) ∧ w = w' := by
 have hlen : len ≤ 9223372036854775807 := hb.2.2.1
 have hzl : zs.length = len := hb.1
 have hini := M.and_mask_int h
 go_enter Tryz.func113, Tryz.ntmps113
 go_wp2
 clear hini
 have hs0 := M.lo_lt h
 go_loop [5, 7, 13] (fun u _ i => ∃ k : Nat, k ≤ len ∧ i = .int .i64 k ∧ u = .int .u64 ((M.fold (M.lo h) (zs.take k) : Nat) : Int)) (fun _ _ i => len - (intOf i).toNat)
 case atStart => exact ⟨0, Nat.zero_le _, rfl, by rw [List.take_zero, M.fold_nil]⟩
 case round =>
  obtain ⟨k, hk, rfl, rfl⟩ := hrel
  have hfl := M.fold_lt (M.lo h) (zs.take k) hs0
  by_cases hlt : k < len
  ·obtain ⟨b, off, rfl, z, hz, hzk, hcell⟩ := hb.byte hlt
   have hst := M.step_eq (M.fold (M.lo h) (zs.take k)) z hfl (by omega)
   go_wp2
   go_round
   case rel => exact ⟨k + 1, by omega, by go_num, by rw [M.fold_take _ _ _ (by omega), hzk]⟩
   case measure => simp [intOf]; omega
  ·have hf : ((M.fold (M.lo h) zs : Nat) : Int) ≤ 9223372036854775807 := by have := M.fold_lt (M.lo h) zs hs0; omega
   have hke : k = len := by omega
   have ht : zs.take k = zs := by rw [List.take_of_length_le (by omega)]
   rw [ht]
   clear hke ht
   go_wp2
   go_ret
   exact ⟨rfl, rfl⟩

/-- The sum of no bytes. -/
def start : Nat := 860922984064492325
set_option maxHeartbeats 400000 in
theorem sum_any (a : Option Addr) (len cap : Nat) (zs : List Int) (w : World) (hb : Byt w a len zs) :
  Calls Tryz.prog 49 #[.slice a len cap] w fun e w' => e = .returned (.int .i64 ((M.fold (M.lo 860922984064492325) zs : Nat) : Int)) ∧ w = w' := by
 go_enter Tryz.func49, Tryz.ntmps49
 go_wp2_with (go_at_call 113; refine (fold_any _ _ _ _ zs _ hb).mono ?_; rintro e w' ⟨rfl, rfl⟩)
 go_ret
 exact ⟨rfl, rfl⟩

end Go.Proofs.YtablocpcgknmaaaGreatDoor.Su
