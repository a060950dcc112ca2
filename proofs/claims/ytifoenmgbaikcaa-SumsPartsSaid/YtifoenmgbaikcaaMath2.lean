/- Plain arithmetic behind reading the sums' digits: the number that 16 bytes stand for, modulo 2 to the 62nd. No condition. -/
import Derived.Test.YtifoenmgbaikcaaMath
import Derived.RowKit
import Derived.IntWalk
open Go Go.RowKit
namespace Go.Proofs.Ytifoenmgbaikcaa.M

/-- The value of a byte, as the program takes it. -/
@[irreducible] def val (b : Int) : Int := if 97 ≤ b then b - 97 + 10 else b - 48
theorem val_hi (b : Int) (h : 97 ≤ b) : b - 97 + 10 = val b := by unfold val; rw [if_pos h]
theorem val_lo (b : Int) (h : b < 97) : b - 48 = val b := by unfold val; rw [if_neg (by omega)]
theorem val_bd (b : Int) (h0 : 0 ≤ b) (h1 : b ≤ 255) : -48 ≤ val b ∧ val b ≤ 168 := by
  unfold val; split <;> omega
def poly (l : List Int) : Int := l.foldl (fun n b => 16 * n + val b) 0
theorem poly_nil : poly [] = 0 := rfl
theorem poly_snoc (l : List Int) (b : Int) : poly (l ++ [b]) = 16 * poly l + val b := by simp only [poly, List.foldl_append, List.foldl_cons, List.foldl_nil]
theorem poly_take (k : Nat) (l : List Int) (h : k < l.length) : poly (l.take (k + 1)) = 16 * poly (l.take k) + val (l.getD k 0) := by
  rw [List.take_succ_eq_append_getElem h, poly_snoc]
  simp [List.getD, h]

theorem wrap64_bd (n : Int) : -9223372036854775808 ≤ wrap64 n ∧ wrap64 n ≤ 9223372036854775807 := by unfold wrap64; omega
theorem wrap64_mod (n : Int) : wrap64 n % 4611686018427387904 = n % 4611686018427387904 := by unfold wrap64; omega
theorem acc_mod (n p v : Int) (h : n % 4611686018427387904 = p % 4611686018427387904) :
    wrap64 (wrap64 (16 * n) + v) % 4611686018427387904 = (16 * p + v) % 4611686018427387904 := by
  rw [wrap64_mod]
  have h2 := wrap64_mod (16 * n)
  omega
theorem lo_of_mod (n p : Int) (h : n % 4611686018427387904 = p % 4611686018427387904) : lo n = lo p := by
  unfold lo; rw [h]

theorem and_mask_i64 (n : Int) : bits .and .i64 n 4611686018427387903 = ((lo n : Nat) : Int) := by
  have h2 : (BitVec.ofInt 64 (4611686018427387903 : Int)).toNat = 4611686018427387903 := by decide
  have h1 : (BitVec.ofInt 64 n).toNat = (n % 18446744073709551616).toNat := by
    rw [BitVec.toNat_ofInt]; rfl
  show IntKind.i64.wrap ((BitVec.ofInt 64 n &&& BitVec.ofInt 64 4611686018427387903).toNat : Int) = _
  rw [BitVec.toNat_and, h1, h2]
  rw [show (4611686018427387903 : Nat) = 2 ^ 62 - 1 from by decide, Nat.and_two_pow_sub_one_eq_mod]
  rw [show (2 : Nat) ^ 62 = 4611686018427387904 from by decide]
  rw [IntWalk.i64_left, IntWalk.wrap64_in _ (by omega)]
  unfold lo
  omega
end Go.Proofs.Ytifoenmgbaikcaa.M
