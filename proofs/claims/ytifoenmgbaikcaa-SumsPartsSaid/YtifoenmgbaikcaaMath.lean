/- Plain arithmetic behind the sums: the step of the sum, its bounds, and that it is injective. No condition. -/
import Derived.Laws.Bits64
open Go
namespace Go.Proofs.Ytifoenmgbaikcaa.M

@[irreducible] def st (s c : Nat) : Nat := (s ^^^ c) * 1099511628211 % 4611686018427387904
def fold (s : Nat) (l : List Int) : Nat := l.foldl (fun s c => st s c.toNat) s
theorem st_lt (s c : Nat) : st s c < 4611686018427387904 := by unfold st; omega
theorem fold_nil (s : Nat) : fold s [] = s := rfl
theorem fold_cons (s : Nat) (c : Int) (l : List Int) : fold s (c :: l) = fold (st s c.toNat) l := by simp only [fold, List.foldl_cons]
theorem fold_append (s : Nat) (l r : List Int) : fold s (l ++ r) = fold (fold s l) r := by simp only [fold, List.foldl_append]
theorem fold_snoc (s : Nat) (l : List Int) (c : Int) : fold s (l ++ [c]) = st (fold s l) c.toNat := by rw [fold_append, fold_cons, fold_nil]
theorem fold_lt (s : Nat) (l : List Int) (h : s < 4611686018427387904) : fold s l < 4611686018427387904 := by
  induction l generalizing s with
  | nil => exact h
  | cons c l ih => rw [fold_cons]; exact ih _ (st_lt _ _)
theorem fold_take (s k : Nat) (l : List Int) (h : k < l.length) : fold s (l.take (k + 1)) = st (fold s (l.take k)) (l.getD k 0).toNat := by
  rw [List.take_succ_eq_append_getElem h, fold_snoc]
  simp [List.getD, h]

theorem xor_lt62 (s c : Nat) (h : s < 4611686018427387904) (hc : c < 256) : s ^^^ c < 4611686018427387904 :=
  Nat.xor_lt_two_pow (n := 62) (by omega) (by omega)

theorem mul_inj (x y : Nat) (hx : x < 4611686018427387904) (hy : y < 4611686018427387904)
    (h : x * 1099511628211 % 4611686018427387904 = y * 1099511628211 % 4611686018427387904) : x = y := by
  have e : ∀ z : Nat, z < 4611686018427387904 → (z * 1099511628211 % 4611686018427387904) * 1051115900582139259 % 4611686018427387904 = z := by
    intro z hz
    rw [Nat.mod_mul_mod, Nat.mul_assoc]
    rw [Nat.mul_mod, show 1099511628211 * 1051115900582139259 % 4611686018427387904 = 1 from by decide, Nat.mul_one, Nat.mod_mod, Nat.mod_eq_of_lt hz]
  rw [← e x hx, h, e y hy]

theorem st_inj (s t c : Nat) (hs : s < 4611686018427387904) (ht : t < 4611686018427387904) (hc : c < 256) (h : st s c = st t c) : s = t := by
  have := mul_inj _ _ (xor_lt62 s c hs hc) (xor_lt62 t c ht hc) (by unfold st at h; exact h)
  have h2 : (s ^^^ c) ^^^ c = (t ^^^ c) ^^^ c := by rw [this]
  simpa [Nat.xor_assoc] using h2
theorem st_inj_byte (s a b : Nat) (hs : s < 4611686018427387904) (ha : a < 256) (hb : b < 256) (h : st s a = st s b) : a = b := by
  have := mul_inj _ _ (xor_lt62 s a hs ha) (xor_lt62 s b hs hb) (by unfold st at h; exact h)
  have h2 : s ^^^ (s ^^^ a) = s ^^^ (s ^^^ b) := by rw [this]
  simpa [← Nat.xor_assoc] using h2
theorem fold_inj (s t : Nat) (l : List Int) (hb : ∀ z ∈ l, 0 ≤ z ∧ z ≤ 255) (hs : s < 4611686018427387904) (ht : t < 4611686018427387904) (h : fold s l = fold t l) : s = t := by
  induction l generalizing s t with
  | nil => exact h
  | cons c l ih =>
    have hc := hb c (by simp)
    rw [fold_cons, fold_cons] at h
    have h2 := ih (st s c.toNat) (st t c.toNat) (fun z hz => hb z (by simp [hz])) (st_lt _ _) (st_lt _ _) h
    exact st_inj s t _ hs ht (by omega) h2

/-- The number that a sum starts from: the low 62 bits. -/
@[irreducible] def lo (h : Int) : Nat := (h % 4611686018427387904).toNat
theorem lo_lt (h : Int) : lo h < 4611686018427387904 := by unfold lo; omega
theorem lo_nat (n : Nat) (h : n < 4611686018427387904) : lo (n : Int) = n := by unfold lo; omega

theorem and_mask (a : Nat) (ha : a < 18446744073709551616) : bits .and .u64 (a : Int) 4611686018427387903 = ((a % 4611686018427387904 : Nat) : Int) := by
  have h1 : (BitVec.ofInt 64 (a : Int)).toNat = a := by
    rw [BitVec.ofInt_natCast, BitVec.toNat_ofNat]; exact Nat.mod_eq_of_lt (by omega)
  have h2 : (BitVec.ofInt 64 (4611686018427387903 : Int)).toNat = 4611686018427387903 := by decide
  show IntKind.u64.wrap ((BitVec.ofInt 64 (a : Int) &&& BitVec.ofInt 64 4611686018427387903).toNat : Int) = _
  rw [BitVec.toNat_and, h1, h2, IntKind.wrap_u64]
  rw [show (4611686018427387903 : Nat) = 2 ^ 62 - 1 from by decide, Nat.and_two_pow_sub_one_eq_mod]
  rw [show (2 : Nat) ^ 62 = 4611686018427387904 from by decide]
  omega
theorem and_mask_int (h : Int) : bits .and .u64 (IntKind.u64.wrap h) 4611686018427387903 = ((lo h : Nat) : Int) := by
  obtain ⟨n, hn⟩ := Int.eq_ofNat_of_zero_le (a := IntKind.u64.wrap h) (by rw [IntKind.wrap_u64]; omega)
  have hb : n < 18446744073709551616 := by rw [IntKind.wrap_u64] at hn; omega
  rw [hn, and_mask n hb]
  rw [IntKind.wrap_u64] at hn
  unfold lo
  omega
theorem lo_step (s c : Nat) : lo (((s ^^^ c : Nat) : Int) * 1099511628211) = st s c := by
  have e : ∀ z : Nat, ((z : Int) * 1099511628211 % 4611686018427387904).toNat = z * 1099511628211 % 4611686018427387904 := by
    intro z
    have e2 : ((z * 1099511628211 % 4611686018427387904 : Nat) : Int) = (z : Int) * 1099511628211 % 4611686018427387904 := by
      rw [Int.natCast_emod, Int.natCast_mul]; rfl
    rw [← e2, Int.toNat_natCast]
  rw [lo, st, e]
theorem step_eq (s c : Nat) (hs : s < 4611686018427387904) (hc : c < 256) :
    bits .and .u64 (IntKind.u64.wrap (bits .xor .u64 (s : Int) (c : Int) * 1099511628211)) 4611686018427387903 = ((st s c : Nat) : Int) := by
  rw [bits_xor_u64_nat s c (by omega) (by omega), and_mask_int, lo_step]
theorem wrap_nonneg (h : Int) : 0 ≤ IntKind.u64.wrap h := by rw [IntKind.wrap_u64]; omega
theorem wrap_mod (h : Int) : IntKind.u64.wrap h % 4611686018427387904 = ((lo h : Nat) : Int) := by
  rw [IntKind.wrap_u64]; unfold lo; omega
theorem step_mod (s c : Nat) (hs : s < 4611686018427387904) (hc : c < 256) :
    IntKind.u64.wrap (bits .xor .u64 (s : Int) (c : Int) * 1099511628211) % 4611686018427387904 = ((st s c : Nat) : Int) := by
  rw [bits_xor_u64_nat s c (by omega) (by omega), wrap_mod, lo_step]
end Go.Proofs.Ytifoenmgbaikcaa.M
