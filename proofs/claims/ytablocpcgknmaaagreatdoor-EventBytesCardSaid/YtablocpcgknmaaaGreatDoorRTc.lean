/- Canonical bytes as lists of numbers: the signed number as an unsigned one, its groups of seven bits, and how they are read back. Plain arithmetic; no program. -/
import Derived.Test.YtablocpcgknmaaaGreatDoorRows
import Derived.Laws.Bits64
import Derived.WalkKit
import Derived.WalkSpells
import Derived.WalkLawsBesides
import Derived.Lib.Hide
import Derived.OwnWalk
import Derived.Laws.OwnMore
import Derived.Laws.AppendOwnNone
import Derived.Laws.CopyOwn
import Derived.Outline
import Derived.Deep.QuietTactic
import Derived.BigQuiet
import Derived.Lib.AppendStr
import Derived.Lib.ConvBytes
open Go
namespace Go.Proofs.YtablocpcgknmaaaGreatDoor.Cd.C
open Go.Lib (hid)
set_option maxRecDepth 100000

/-- The sign becomes the lowest bit. -/
def zig (n : Int) : Nat := if 0 ≤ n then (2 * n).toNat else (-2 * n - 1).toNat
def zag (u : Nat) : Int := if u % 2 = 0 then ((u / 2 : Nat) : Int) else -((u / 2 : Nat) : Int) - 1
theorem zag_zig (n : Int) : zag (zig n) = n := by
 unfold zag zig
 by_cases h : 0 ≤ n
 ·rw [if_pos h, if_pos (by omega)]; omega
 ·rw [if_neg h, if_neg (by omega)]; omega
@[irreducible] def lt64 (u : Nat) : Prop := u < 18446744073709551616
theorem lt64_iff (u : Nat) : lt64 u ↔ u < 18446744073709551616 := by unfold lt64; rfl
@[irreducible] def in64 (n : Int) : Prop := -9223372036854775808 ≤ n ∧ n ≤ 9223372036854775807
theorem in64_iff (n : Int) : in64 n ↔ -9223372036854775808 ≤ n ∧ n ≤ 9223372036854775807 := by unfold in64; rfl
theorem zig_lt {n : Int} (h : in64 n) : lt64 (zig n) := by
 rw [in64_iff] at h; rw [lt64_iff]; unfold zig
 by_cases h0 : 0 ≤ n
 ·rw [if_pos h0]; omega
 ·rw [if_neg h0]; omega
theorem zag_in {u : Nat} (h : lt64 u) : in64 (zag u) := by
 rw [lt64_iff] at h; rw [in64_iff]; unfold zag
 by_cases h0 : u % 2 = 0
 ·rw [if_pos h0]; omega
 ·rw [if_neg h0]; omega

theorem nat64 (a : Nat) (h : a < 18446744073709551616) : (BitVec.ofInt 64 (a : Int)).toNat = a := by
 rw [BitVec.ofInt_natCast, BitVec.toNat_ofNat]; exact Nat.mod_eq_of_lt (by omega)
theorem xor_nat (a b : Nat) (ha : a < 18446744073709551616) (hb : b < 18446744073709551616) : bits .xor .u64 (a : Int) (b : Int) = ((a ^^^ b : Nat) : Int) := by
 show IntKind.u64.wrap ((BitVec.ofInt 64 (a : Int) ^^^ BitVec.ofInt 64 (b : Int)).toNat : Int) = _
 rw [BitVec.toNat_xor, nat64 a ha, nat64 b hb, IntKind.wrap_u64]
 have := Nat.xor_lt_two_pow (n := 64) (x := a) (y := b) (by omega) (by omega)
 omega
theorem or_nat (a b : Nat) (ha : a < 18446744073709551616) (hb : b < 18446744073709551616) : bits .or .u64 (a : Int) (b : Int) = ((a ||| b : Nat) : Int) := by
 show IntKind.u64.wrap ((BitVec.ofInt 64 (a : Int) ||| BitVec.ofInt 64 (b : Int)).toNat : Int) = _
 rw [BitVec.toNat_or, nat64 a ha, nat64 b hb, IntKind.wrap_u64]
 have := Nat.or_lt_two_pow (n := 64) (x := a) (y := b) (by omega) (by omega)
 omega
theorem xor_ones (a : Nat) (ha : a < 18446744073709551616) : a ^^^ 18446744073709551615 = 18446744073709551615 - a := by
 have h : ∀ x : BitVec 64, x ^^^ BitVec.allOnes 64 = ~~~ x := fun x => BitVec.xor_allOnes
 have h1 := congrArg BitVec.toNat (h (BitVec.ofNat 64 a))
 rw [BitVec.toNat_xor, BitVec.toNat_allOnes, BitVec.toNat_not, BitVec.toNat_ofNat, Nat.mod_eq_of_lt (by omega)] at h1
 have e : (2 : Nat) ^ 64 - 1 = 18446744073709551615 := by decide
 rw [e] at h1
 omega
theorem zig_own {n : Int} (h0 : 0 ≤ n) (h1 : n ≤ 9223372036854775807) : bits .xor .u64 (n * 2) (n / 9223372036854775808) = (zig n : Int) := by
 obtain ⟨m, rfl⟩ := Int.eq_ofNat_of_zero_le h0
 have e : (m : Int) / 9223372036854775808 = ((0 : Nat) : Int) := by omega
 have e2 : (m : Int) * 2 = ((m * 2 : Nat) : Int) := by omega
 rw [e, e2, xor_nat _ _ (by omega) (by omega), Nat.xor_zero]
 unfold zig; rw [if_pos h0]; omega
theorem zig_ref {n : Int} (h0 : 0 ≤ n) : n * 2 = (zig n : Int) := by unfold zig; rw [if_pos h0]; omega
theorem wrap2 {n : Int} (h0 : n < 0) (h1 : -9223372036854775808 ≤ n) : IntKind.u64.wrap (IntKind.u64.wrap n * 2) = ((2 * n + 18446744073709551616).toNat : Int) := by
 rw [IntKind.wrap_u64, IntKind.wrap_u64]; omega
theorem zig_own_neg {n : Int} (h0 : n < 0) (h1 : -9223372036854775808 ≤ n) :
  bits .xor .u64 (IntKind.u64.wrap (IntKind.u64.wrap n * 2)) (IntKind.u64.wrap (n / 9223372036854775808)) = (zig n : Int) := by
 have e : IntKind.u64.wrap (n / 9223372036854775808) = ((18446744073709551615 : Nat) : Int) := by rw [IntKind.wrap_u64]; omega
 rw [wrap2 h0 h1, e, xor_nat _ _ (by omega) (by omega), xor_ones _ (by omega)]
 unfold zig; rw [if_neg (by omega)]; omega
theorem zig_ref_neg {n : Int} (h0 : n < 0) (h1 : -9223372036854775808 ≤ n) :
  bits .xor .u64 IntKind.u64.max (IntKind.u64.wrap (IntKind.u64.wrap n * 2)) = (zig n : Int) := by
 have e : IntKind.u64.max = ((18446744073709551615 : Nat) : Int) := by decide
 rw [wrap2 h0 h1, e, xor_nat _ _ (by omega) (by omega), Nat.xor_comm, xor_ones _ (by omega)]
 unfold zig; rw [if_neg (by omega)]; omega

/-! ### groups of seven bits -/
def encF : Nat → Nat → List Int
 | 0, u => [(u : Int)]
 | f + 1, u => if u < 128 then [(u : Int)] else ((u % 128 + 128 : Nat) : Int) :: encF f (u / 128)
def enc (u : Nat) : List Int := encF 10 u
theorem encF_more : ∀ (f u : Nat), u < 128 * 128 ^ f → encF (f + 1) u = encF (f + 2) u
 |0, u, h => by
  have h0 : u < 128 := by simpa using h
  simp [encF, h0]
 |f + 1, u, h => by
  rw [encF, encF.eq_2 u (f + 1 + 1)]
  by_cases h0 : u < 128
  ·rw [if_pos h0, if_pos h0]
  ·rw [if_neg h0, if_neg h0, encF_more f (u / 128) (by rw [Nat.pow_succ] at h; omega)]
theorem enc_small {u : Nat} (h : u < 128) : enc u = [(u : Int)] := by unfold enc; rw [encF, if_pos h]
theorem enc_big {u : Nat} (h : ¬ u < 128) (hl : lt64 u) : enc u = ((u % 128 + 128 : Nat) : Int) :: enc (u / 128) := by
 rw [lt64_iff] at hl
 unfold enc
 rw [encF, if_neg h, encF_more 8 (u / 128) (by omega)]
theorem lt64_div {u : Nat} (h : lt64 u) : lt64 (u / 128) := by rw [lt64_iff] at *; omega
theorem encF_bd : ∀ (f u : Nat), u < 128 * 128 ^ f → (∀ z ∈ encF f u, 0 ≤ z ∧ z ≤ 255) ∧ 1 ≤ (encF f u).length ∧ (encF f u).length ≤ f + 1
 |0, u, h => by
  rw [encF]
  refine ⟨fun z hz => ?_, by simp, by simp⟩
  simp at hz; omega
 |f + 1, u, h => by
  rw [encF]
  by_cases h0 : u < 128
  ·rw [if_pos h0]
   refine ⟨fun z hz => ?_, by simp, by simp⟩
   simp at hz; omega
  ·rw [if_neg h0]
   obtain ⟨h1, h2, h3⟩ := encF_bd f (u / 128) (by rw [Nat.pow_succ] at h; omega)
   refine ⟨fun z hz => ?_, by simp, by simp; omega⟩
   rcases List.mem_cons.1 hz with rfl | hz
   ·omega
   ·exact h1 z hz
theorem enc_bd {u : Nat} (h : lt64 u) : (∀ z ∈ enc u, 0 ≤ z ∧ z ≤ 255) ∧ 1 ≤ (enc u).length ∧ (enc u).length ≤ 11 := by
 rw [lt64_iff] at h
 exact encF_bd 10 u (by omega)

/-! ### read back -/
def decF : Nat → List Int → Option (Nat × Nat)
 | _, [] => none
 |i, c :: t => if (i = 9 ∧ 1 < c) ∨ (0 < i ∧ c = 0) then none else if c < 128 then some (c.toNat, 1) else
  match decF (i + 1) t with
  | none => none
  | some (u, k) => some (c.toNat - 128 + 128 * u, k + 1)
def dec (zs : List Int) : Option (Nat × Nat) := decF 0 zs
theorem decF_bad {i : Nat} {c : Int} {t : List Int} (h : (i = 9 ∧ 1 < c) ∨ (0 < i ∧ c = 0)) : decF i (c :: t) = none := by rw [decF, if_pos h]
theorem decF_last {i : Nat} {c : Int} {t : List Int} (h : ¬ ((i = 9 ∧ 1 < c) ∨ (0 < i ∧ c = 0))) (hc : c < 128) : decF i (c :: t) = some (c.toNat, 1) := by rw [decF, if_neg h, if_pos hc]
theorem decF_on {i : Nat} {c : Int} {t : List Int} (h : ¬ ((i = 9 ∧ 1 < c) ∨ (0 < i ∧ c = 0))) (hc : ¬ c < 128) : decF i (c :: t) = match decF (i + 1) t with
  | none => none
  | some (u, k) => some (c.toNat - 128 + 128 * u, k + 1) := by rw [decF, if_neg h, if_neg hc]
/-- The greatest value that may begin at byte i, and one more. -/
def cap (i : Nat) : Nat := 2 * 128 ^ (9 - i)
theorem cap_step {i : Nat} (h : i < 9) : cap i = 128 * cap (i + 1) := by
 unfold cap
 rw [show 9 - i = (9 - (i + 1)) + 1 by omega, Nat.pow_succ]; omega
theorem cap_nine : cap 9 = 2 := rfl
theorem cap_zero : cap 0 = 18446744073709551616 := by decide
theorem cap_big {i : Nat} (h : i < 9) : 256 ≤ cap i := by
 rw [cap_step h]
 have : 0 < cap (i + 1) := by unfold cap; exact Nat.mul_pos (by decide) (Nat.pow_pos (by decide))
 have h2 : cap (i + 1) = 2 * 128 ^ (9 - (i + 1)) := rfl
 have : 0 < 128 ^ (9 - (i + 1)) := Nat.pow_pos (by decide)
 omega
theorem decF_some : ∀ (zs : List Int) (i u k : Nat), i ≤ 9 → (∀ z ∈ zs, 0 ≤ z ∧ z ≤ 255) → decF i zs = some (u, k) → u < cap i ∧ (0 < i → 0 < u) ∧ 1 ≤ k ∧ k ≤ zs.length ∧ k + i ≤ 10
 | [], i, u, k, _, _, h => by simp [decF] at h
 |c :: t, i, u, k, hi, hb, h => by
  have hc := hb c (by simp)
  by_cases hbad : (i = 9 ∧ 1 < c) ∨ (0 < i ∧ c = 0)
  ·rw [decF_bad hbad] at h; cases h
  ·by_cases hl : c < 128
   ·rw [decF_last hbad hl] at h
    simp only [Option.some.injEq, Prod.mk.injEq] at h
    obtain ⟨rfl, rfl⟩ := h
    refine ⟨?_, fun h0 => by omega, by omega, by simp, by omega⟩
    by_cases h9 : i = 9
    ·subst h9; rw [cap_nine]; omega
    ·have := cap_big (show i < 9 by omega); omega
   ·rw [decF_on hbad hl] at h
    have h9 : i < 9 := by omega
    cases hd : decF (i + 1) t with
    | none => rw [hd] at h; cases h
    | some p =>
     obtain ⟨u', k'⟩ := p
     rw [hd] at h
     simp only [Option.some.injEq, Prod.mk.injEq] at h
     obtain ⟨rfl, rfl⟩ := h
     obtain ⟨h1, h2, h3, h4, h5⟩ := decF_some t (i + 1) u' k' (by omega) (fun z hz => hb z (by simp [hz])) hd
     have := cap_step h9
     have := h2 (by omega)
     refine ⟨by omega, fun _ => by omega, by omega, by simp; omega, by omega⟩
theorem decF_enc : ∀ (zs : List Int) (i u k : Nat), i ≤ 9 → (∀ z ∈ zs, 0 ≤ z ∧ z ≤ 255) → decF i zs = some (u, k) → zs.take k = enc u
 | [], i, u, k, _, _, h => by simp [decF] at h
 |c :: t, i, u, k, hi, hb, h => by
  have hc := hb c (by simp)
  have hlt := (decF_some (c :: t) i u k hi hb h).1
  by_cases hbad : (i = 9 ∧ 1 < c) ∨ (0 < i ∧ c = 0)
  ·rw [decF_bad hbad] at h; cases h
  ·by_cases hl : c < 128
   ·rw [decF_last hbad hl] at h
    simp only [Option.some.injEq, Prod.mk.injEq] at h
    obtain ⟨rfl, rfl⟩ := h
    rw [enc_small (by omega)]
    simp; omega
   ·rw [decF_on hbad hl] at h
    have h9 : i < 9 := by omega
    cases hd : decF (i + 1) t with
    | none => rw [hd] at h; cases h
    | some p =>
     obtain ⟨u', k'⟩ := p
     rw [hd] at h
     simp only [Option.some.injEq, Prod.mk.injEq] at h
     obtain ⟨rfl, rfl⟩ := h
     have h2 := (decF_some t (i + 1) u' k' (by omega) (fun z hz => hb z (by simp [hz])) hd).2.1 (by omega)
     have ih := decF_enc t (i + 1) u' k' (by omega) (fun z hz => hb z (by simp [hz])) hd
     have hcap : cap i ≤ 18446744073709551616 := by
      have : ∀ j, j ≤ 9 → cap (9 - j) ≤ 2 * 128 ^ j := fun j hj => by unfold cap; rw [show 9 - (9 - j) = j by omega]; exact Nat.le_refl _
      have := this (9 - i) (by omega)
      rw [show 9 - (9 - i) = i by omega] at this
      have h3 : 128 ^ (9 - i) ≤ 128 ^ 9 := Nat.pow_le_pow_right (by decide) (by omega)
      have h4 : (128 : Nat) ^ 9 = 9223372036854775808 := by decide
      omega
     rw [enc_big (by omega) ((lt64_iff _).2 (by omega)), List.take_succ_cons, ih]
     rw [show (c.toNat - 128 + 128 * u') / 128 = u' by omega, show (((c.toNat - 128 + 128 * u') % 128 + 128 : Nat) : Int) = c by omega]
theorem enc_decF (f : Nat) : ∀ (i u : Nat) (r : List Int), u < 128 ^ f → lt64 u → i ≤ 9 → u < cap i → (0 < i → 0 < u) → decF i (enc u ++ r) = some (u, (enc u).length) := by
 induction f with
 | zero =>
  intro i u r h hl hi hc h0
  have : u = 0 := by simpa using h
  subst this
  rw [enc_small (by omega)]
  have : i = 0 := by rcases Nat.eq_zero_or_pos i with h | h; exact h; exact absurd (h0 h) (by omega)
  subst this
  rw [List.singleton_append, decF_last (by omega) (by omega)]; rfl
 | succ f ih =>
  intro i u r h hl hi hc h0
  by_cases hs : u < 128
  ·rw [enc_small hs, List.singleton_append, decF_last (by
    rintro (⟨rfl, h⟩ | ⟨h1, h2⟩)
    ·rw [cap_nine] at hc; omega
    ·have := h0 h1; omega) (by omega)]
   simp
  ·have h9 : i < 9 := by
    rcases Nat.lt_or_ge i 9 with h | h
    ·exact h
    ·obtain rfl : i = 9 := by omega
     rw [cap_nine] at hc; omega
   have hcs := cap_step h9
   rw [enc_big hs hl, List.cons_append, decF_on (by rintro (⟨rfl, h⟩ | ⟨h1, h2⟩) <;> omega) (by omega),
    ih (i + 1) (u / 128) r (by rw [Nat.pow_succ] at h; omega) (lt64_div hl) (by omega) (by omega) (fun _ => by omega)]
   simp; omega
theorem dec_enc {u : Nat} (h : lt64 u) (r : List Int) : dec (enc u ++ r) = some (u, (enc u).length) := by
 have h2 := (lt64_iff u).1 h
 exact enc_decF 10 0 u r (by omega) h (by omega) (by rw [cap_zero]; exact h2) (fun h => by omega)
theorem enc_dec {zs : List Int} {u k : Nat} (hb : ∀ z ∈ zs, 0 ≤ z ∧ z ≤ 255) (h : dec zs = some (u, k)) : zs.take k = enc u ∧ lt64 u ∧ 1 ≤ k ∧ k ≤ zs.length ∧ k ≤ 10 := by
 obtain ⟨h1, _, h3, h4, h5⟩ := decF_some zs 0 u k (by omega) hb h
 rw [cap_zero] at h1
 exact ⟨decF_enc zs 0 u k (by omega) hb h, (lt64_iff u).2 h1, h3, h4, by omega⟩

/-! ### the loop from the front: acc is what the first k bytes make -/
def Front (zs : List Int) (k acc : Nat) : Prop := acc < 128 ^ k ∧ dec zs = match decF k (zs.drop k) with
 | none => none
 | some (u, j) => some (acc + 128 ^ k * u, k + j)
theorem front_zero (zs : List Int) : Front zs 0 0 := by
 refine ⟨by decide, ?_⟩
 rw [List.drop_zero]
 show decF 0 zs = _
 cases h : decF 0 zs with
 | none => rfl
 | some p => simp
theorem drop_get {zs : List Int} {k : Nat} {c : Int} (hk : k < zs.length) (hc : zs.getD k 0 = c) : zs.drop k = c :: zs.drop (k + 1) := by
 rw [List.drop_eq_getElem_cons hk, ← hc, List.getD_eq_getElem?_getD, List.getElem?_eq_getElem hk]; rfl
theorem front_bad {zs : List Int} {k acc : Nat} {c : Int} (h : Front zs k acc) (hk : k < zs.length) (hc : zs.getD k 0 = c) (hb : (k = 9 ∧ 1 < c) ∨ (0 < k ∧ c = 0)) : dec zs = none := by
 rw [h.2, drop_get hk hc, decF_bad hb]
theorem front_last {zs : List Int} {k acc : Nat} {c : Int} (h : Front zs k acc) (hk : k < zs.length) (hc : zs.getD k 0 = c) (hb : ¬ ((k = 9 ∧ 1 < c) ∨ (0 < k ∧ c = 0))) (hl : c < 128) :
  dec zs = some (acc + 128 ^ k * c.toNat, k + 1) := by
 rw [h.2, drop_get hk hc, decF_last hb hl]
theorem front_on {zs : List Int} {k acc : Nat} {c : Int} (h : Front zs k acc) (hk : k < zs.length) (hc : zs.getD k 0 = c) (hb : ¬ ((k = 9 ∧ 1 < c) ∨ (0 < k ∧ c = 0))) (hl : ¬ c < 128) (h255 : c ≤ 255) :
  Front zs (k + 1) (acc + 128 ^ k * (c.toNat - 128)) := by
 refine ⟨?_, ?_⟩
 ·have h1 := h.1
  have h2 : 128 ^ k * (c.toNat - 128) ≤ 128 ^ k * 127 := Nat.mul_le_mul_left _ (by omega)
  rw [Nat.pow_succ]; omega
 ·rw [h.2, drop_get hk hc, decF_on hb hl]
  cases decF (k + 1) (zs.drop (k + 1)) with
  | none => rfl
  | some p =>
   obtain ⟨u, j⟩ := p
   simp only [Option.some.injEq, Prod.mk.injEq]
   refine ⟨?_, by omega⟩
   rw [Nat.pow_succ, Nat.mul_add, Nat.mul_assoc]; omega
theorem front_end {zs : List Int} {k acc : Nat} (h : Front zs k acc) (hk : zs.length ≤ k) : dec zs = none := by
 rw [h.2, List.drop_of_length_le hk]; rfl
theorem and127 (c : Nat) (h : c ≤ 255) : bits .and .u8 (c : Int) 127 = ((c % 128 : Nat) : Int) := by
 have h1 : (BitVec.ofInt 8 (c : Int)).toNat = c := by rw [BitVec.ofInt_natCast, BitVec.toNat_ofNat]; exact Nat.mod_eq_of_lt (by omega)
 have h2 : (BitVec.ofInt 8 (127 : Int)).toNat = 127 := by decide
 show IntKind.u8.wrap ((BitVec.ofInt 8 (c : Int) &&& BitVec.ofInt 8 127).toNat : Int) = _
 rw [BitVec.toNat_and, h1, h2, show (127 : Nat) = 2 ^ 7 - 1 from by decide, Nat.and_two_pow_sub_one_eq_mod]
 have e : ∀ n : Int, IntKind.u8.wrap n = n % 256 := fun n => by simp [IntKind.wrap, IntKind.bits, IntKind.signed]
 rw [e]; omega
theorem pow7 (k : Nat) : (2 : Nat) ^ (7 * k) = 128 ^ k := by rw [Nat.pow_mul]
/-- One group more: no bit meets another. -/
theorem or_step {acc k c : Nat} (h : acc < 128 ^ k) (hc : c ≤ 255) (hk : k ≤ 9) (h9 : k = 9 → c ≤ 1) :
  bits .or .u64 (acc : Int) (IntKind.u64.wrap (IntKind.u64.wrap (bits .and .u8 (c : Int) 127) * 2 ^ (7 * k))) = ((acc + 128 ^ k * (c % 128) : Nat) : Int) := by
 have hp : (128 : Nat) ^ k ≤ 9223372036854775808 := by
  have := Nat.pow_le_pow_right (n := 128) (by decide) hk
  have e : (128 : Nat) ^ 9 = 9223372036854775808 := by decide
  omega
 have hx : 128 ^ k * (c % 128) + 128 ^ k ≤ 18446744073709551616 := by
  by_cases e : k = 9
  ·subst e
   have := h9 rfl
   have e2 : (128 : Nat) ^ 9 = 9223372036854775808 := by decide
   rw [e2, Nat.mod_eq_of_lt (show c < 128 by omega)]
   omega
  ·have h8 : (128 : Nat) ^ k ≤ 72057594037927936 := by
    have := Nat.pow_le_pow_right (n := 128) (by decide) (show k ≤ 8 by omega)
    have e : (128 : Nat) ^ 8 = 72057594037927936 := by decide
    omega
   have : 128 ^ k * (c % 128) ≤ 128 ^ k * 127 := Nat.mul_le_mul_left _ (by omega)
   omega
 have h1 : IntKind.u64.wrap (bits .and .u8 (c : Int) 127) = ((c % 128 : Nat) : Int) := by rw [and127 c hc, IntKind.wrap_u64]; omega
 have h2 : ((c % 128 : Nat) : Int) * 2 ^ (7 * k) = ((128 ^ k * (c % 128) : Nat) : Int) := by
  rw [show ((2 : Int) ^ (7 * k)) = (((2 : Nat) ^ (7 * k) : Nat) : Int) by simp, pow7, ← Int.natCast_mul, Nat.mul_comm]
 have hpos : 0 < 128 ^ k := Nat.pow_pos (by decide)
 rw [h1, h2, IntKind.wrap_u64]
 have h3 : ((128 ^ k * (c % 128) : Nat) : Int) % 18446744073709551616 = ((128 ^ k * (c % 128) : Nat) : Int) := Int.emod_eq_of_lt (by omega) (by omega)
 rw [h3, or_nat _ _ (by omega) (by omega)]
 congr 1
 have h4 := Nat.shiftLeft_add_eq_or_of_lt (a := c % 128) (b := acc) (i := 7 * k) (by rw [pow7]; exact h)
 rw [Nat.shiftLeft_eq, pow7, Nat.mul_comm] at h4
 rw [Nat.or_comm, ← h4, Nat.add_comm]

/-! ### the reference's way: all bytes but the last are 128 or more; then from the back -/
def hor : List Int → Nat
 | [] => 0
 | c :: t => c.toNat % 128 + 128 * hor t
end Go.Proofs.YtablocpcgknmaaaGreatDoor.Cd.C
/- Slices of bytes in the walks of the codec: how they are read, owned, copied and appended to. Bounds: at most a million bytes. -/
namespace Go.Proofs.YtablocpcgknmaaaGreatDoor.Cd
open Go.Lib (hid)
set_option maxRecDepth 100000
open Go.RowKit
set_option linter.unusedVariables false

theorem info5 : (Tryz.prog.info? 5).map (fun i => (i.zero, i.size, i.bytes)) = some (some (.int .u8 0), 1, 1) := by kernel_rfl
theorem ret_bool {a b : Bool} (h : a = b) : Ending.returned (.bool a) = .returned (.bool b) := by rw [h]

/-- The slice of bytes at `a` has `len` elements, which are `zs`; a nil one has no room. -/
structure Sl (w : World) (a : Option Addr) (len cap : Nat) (zs : List Int) : Prop where
 sz : zs.length = len
 bd : ∀ z ∈ zs, 0 ≤ z ∧ z ≤ 255
 le : len ≤ cap
 nl : a = none → cap = 0
 cell : 0 < len → ∃ b off, a = some ⟨b, off, none⟩ ∧ b < w.heap.size ∧ ∀ i, i < len → w.cell? ⟨b, off + i, none⟩ = some (.int .u8 (zs.getD i 0))
theorem Sl.byte {w : World} {a : Option Addr} {len cap : Nat} {zs : List Int} (h : Sl w a len cap zs) {k : Nat} (hk : k < len) :
  ∃ b off, a = some ⟨b, off, none⟩ ∧ ∃ z : Nat, z ≤ 255 ∧ zs.getD k 0 = (z : Int) ∧ b < w.heap.size ∧ w.cell? ⟨b, off + k, none⟩ = some (.int .u8 (z : Int)) := by
 obtain ⟨hl, hb, _, _, hc⟩ := h
 obtain ⟨b, off, ha, hlt, hc⟩ := hc (by omega)
 have hm : zs.getD k 0 ∈ zs := by
  rw [List.getD_eq_getElem?_getD, List.getElem?_eq_getElem (by omega)]; simp
 have hz := hb _ hm
 refine ⟨b, off, ha, (zs.getD k 0).toNat, by omega, by omega, hlt, ?_⟩
 rw [hc k hk]
 congr 2
 omega
theorem Sl.below {w w' : World} {a : Option Addr} {len cap : Nat} {zs : List Int} (h : Sl w a len cap zs) (hb : Below w.heap.size w w') : Sl w' a len cap zs :=
 ⟨h.sz, h.bd, h.le, h.nl, fun h0 => by
  obtain ⟨b, off, e, hl, hc⟩ := h.cell h0
  exact ⟨b, off, e, Nat.lt_of_lt_of_le hl hb.size, fun i hi => (hb.cell (p := ⟨b, off + i, none⟩) hl).trans (hc i hi)⟩⟩
theorem Sl.drewN {w : World} {a : Option Addr} {len cap : Nat} {zs : List Int} (h : Sl w a len cap zs) (n : Nat) : Sl (w.drewN n) a len cap zs := ⟨h.sz, h.bd, h.le, h.nl, h.cell⟩
theorem Sl.empty (w : World) (a : Option Addr) (cap : Nat) (h : a = none → cap = 0) : Sl w a 0 cap [] := ⟨rfl, by simp, Nat.zero_le _, h, by omega⟩
theorem Sl.drop {w : World} {a : Option Addr} {len cap : Nat} {zs : List Int} (h : Sl w a len cap zs) (k : Nat) (hk : k ≤ len) :
  ∃ a', (if cap = k then a else a.map (·.add (k * 1))) = a' ∧ Sl w a' (len - k) (cap - k) (zs.drop k) := by
 refine ⟨_, rfl, by rw [List.length_drop, h.sz], fun z hz => h.bd z (List.mem_of_mem_drop hz), by have := h.le; omega, fun hn => ?_, fun h0 => ?_⟩
 ·by_cases e : cap = k
  ·omega
  ·rw [if_neg e] at hn
   have := h.nl (by simpa using hn)
   omega
 ·have hle := h.le
  rw [if_neg (by omega)]
  obtain ⟨b, off, rfl, hl, hc⟩ := h.cell (by omega)
  refine ⟨b, off + k, by simp [Addr.add], hl, fun i hi => ?_⟩
  rw [show off + k + i = off + (k + i) by omega, hc (k + i) (by omega), List.getD_eq_getElem?_getD, List.getD_eq_getElem?_getD, List.getElem?_drop]
theorem Sl.take {w : World} {a : Option Addr} {len cap : Nat} {zs : List Int} (h : Sl w a len cap zs) (k : Nat) (hk : k ≤ len) : Sl w a k cap (zs.take k) :=
 ⟨by rw [List.length_take, h.sz]; omega, fun z hz => h.bd z (List.mem_of_mem_take hz), Nat.le_trans hk h.le, h.nl, fun h0 => by
  obtain ⟨b, off, e, hl, hc⟩ := h.cell (by omega)
  refine ⟨b, off, e, hl, fun i hi => ?_⟩
  rw [hc i (by omega), List.getD_eq_getElem?_getD, List.getD_eq_getElem?_getD, List.getElem?_take, if_pos hi]⟩

/-- A row of the call's own, from block B on. -/
abbrev Own (w : World) (B : Nat) (v : Value) (zs : List Int) : Prop := w.ownsRow B 5 1 v zs.length (zs.map (Value.int .u8))
theorem Own.sl {w : World} {B : Nat} {v : Value} {zs : List Int} (h : Own w B v zs) (hz : ∀ z ∈ zs, 0 ≤ z ∧ z ≤ 255) : ∃ A c, v = .slice A zs.length c ∧ Sl w A zs.length c zs := by
 rcases h.2 with ⟨rfl, h0⟩ | ⟨g, cap, cur, rfl, _, hh, hnc, _, hsz, htake⟩
 ·have : zs = [] := List.eq_nil_of_length_eq_zero h0
  subst this
  exact ⟨none, 0, rfl, Sl.empty w none 0 (fun _ => rfl)⟩
 ·refine ⟨some ⟨g, 0, none⟩, cap, rfl, rfl, hz, hnc, (fun h => by cases h), fun h0 => ⟨g, 0, rfl, lt_of_block hh, fun i hi => ?_⟩⟩
  rw [Nat.zero_add, World.ownsRow.cellAt (xs := zs.map (Value.int .u8)) h i (by omega), List.getElem?_map, List.getElem?_eq_getElem hi, List.getD_eq_getElem?_getD, List.getElem?_eq_getElem hi]
  rfl
theorem one8 (zs : List Int) : ∀ u ∈ zs.map (Value.int .u8), u.oneCell' = true := by
 intro u hu
 simp only [List.mem_map] at hu
 obtain ⟨z, _, rfl⟩ := hu
 rfl

/-- One append of a slice of bytes to a row of the call's own. -/
theorem app_bytes {w : World} {ops : Array Oper} {rest : List Oper} {o : Oper} {a : Act} {Q : Exit → Act → World → Prop} (hgd : o.guard = none) (s x : Operand)
  (ho : o.op = .call { callee := .builtin .append, args := #[s, x], argTypes := #[56, 56] }) {B : Nat}
  (v : Value) (xs : List Int) (hs : a.eval s = v) (hown : Own w B v xs) (hB : B ≤ w.heap.size)
  (A : Option Addr) (len cap : Nat) (z : List Int) (hx : a.eval x = .slice A len cap) (hS : Sl w A len cap z) (hn : xs.length + len ≤ 1000000)
  (h : ∀ v' w', Own w' B v' (xs ++ z) → Below B w w' → wpList Tryz.prog ops Q rest (a.put o.dst v') w') : wpList Tryz.prog ops Q (o :: rest) a w := by
 obtain ⟨i0, hi0, hz0, hz1, hz2⟩ := info_parts info5
 cases A with
 | none =>
  obtain rfl := hS.nl rfl
  obtain rfl : len = 0 := by have := hS.le; omega
  obtain rfl : z = [] := List.eq_nil_of_length_eq_zero hS.sz
  refine wpList_append_own_none hgd _ _ 56 ho B 5 i0 1 Tryz.underlying56 hi0 v _ _ hs hown hx ?_
  refine h v w ?_ (Below.refl _ _)
  rw [List.append_nil]; exact hown
 | some ad =>
  refine wpList_append_own _ hgd _ _ 56 ho B 5 i0 (.int .u8 0) 1 1 Tryz.underlying56 hi0 hz0 hz1 hz2 rfl (by decide) v _ _ hs hown ad len cap (z.map (Value.int .u8)) hx (by rw [List.length_map, hS.sz, Nat.mul_one]) ?_ (one8 _) (by unfold maxLen; omega) (by omega) hB ?_
  ·intro j u hu
   rw [List.getElem?_map] at hu
   have hj : j < z.length := by
    rcases Nat.lt_or_ge j z.length with h | h
    ·exact h
    ·rw [List.getElem?_eq_none h] at hu; cases hu
   obtain ⟨b, off, e, hlt, hc⟩ := hS.cell (by rw [← hS.sz]; omega)
   injection e with e
   subst e
   rw [Addr.add_lit, hc j (by rw [← hS.sz]; exact hj), ← hu, List.getD_eq_getElem?_getD, List.getElem?_eq_getElem hj]
   rfl
  ·intro v' w' hown' hg _
   refine h v' w' ?_ ((Below.refl B w).grown hg hB (fun k hk => (hown.lt k hk).1))
   show w'.ownsRow B 5 1 v' (xs ++ z).length ((xs ++ z).map (Value.int .u8))
   rw [List.map_append, List.length_append, hS.sz]
   exact hown'

/-- What a function that appends leaves: a row of its own with the bytes. -/
def OwnPost (B : Nat) (w : World) (zs : List Int) (e : Ending) (w' : World) : Prop := ∃ A c, e = .returned (.slice A zs.length c) ∧ Own w' B (.slice A zs.length c) zs ∧ Below B w w'
theorem own_post {B : Nat} {w w' : World} {v : Value} {zs : List Int} (h : Own w' B v zs) (hb : Below B w w') : OwnPost B w zs (.returned v) w' := by
 rcases h.2 with ⟨rfl, h0⟩ | ⟨g, cap, cur, rfl, _⟩
 ·exact ⟨none, 0, by rw [h0], by rw [h0]; exact h, hb⟩
 ·exact ⟨_, _, rfl, h, hb⟩
theorem own_shape {w : World} {B : Nat} {v : Value} {zs : List Int} (h : Own w B v zs) : ∃ A c, v = .slice A zs.length c := by
 rcases h.2 with ⟨rfl, h0⟩ | ⟨g, cap, cur, rfl, _⟩
 ·exact ⟨none, 0, by rw [h0]⟩
 ·exact ⟨_, _, rfl⟩

/-- make with room behind the elements. -/
theorem wpList_room {ops : Array Oper} {rest : List Oper} {o : Oper} {a : Act} {Q : Exit → Act → World → Prop} {w : World} (hg : o.guard = none) {l c : Operand} (hop : o.op = .makeSlice 56 l c)
  (n m : Nat) (L C : Int) (hl : a.eval l = .int .i64 L) (hc : a.eval c = .int .i64 C) (hL : L = (n : Int)) (hC : C = (m : Int)) (hnm : n ≤ m) (hm : m ≤ 2000000)
  (hK : ∀ w', w'.heap[w.heap.size]? = some (.cells (List.replicate m (Value.int .u8 0)).toArray 5 (0, 0)) → Below w.heap.size w w' → w.heap.size < w'.heap.size → wpList Tryz.prog ops Q rest (a.put o.dst (.slice (some ⟨w.heap.size, 0, none⟩) n m)) w') : wpList Tryz.prog ops Q (o :: rest) a w := by
 subst hL hC
 obtain ⟨i0, hi0, hz0, hz1, hz2⟩ := info_parts info5
 refine wpList_plain hg fun K hK' => ?_
 have hr := run_make (P := Tryz.prog) w 56 5 i0 (.int .u8 0) Tryz.underlying56 hi0 hz0 .i64 .i64 (n : Int) (m : Int) (by omega) (by omega) (by rw [hz2]; omega) (by omega)
 simp only [Int.toNat_natCast] at hr
 unfold Oper.wp
 simp [execOp, hop, hl, hc, hr, Result.andThen]
 refine hK' _ _ (hK _ ?_ ((Below.refl _ _).alloc (Nat.le_refl _) _) (by simp))
 rw [hz1]
 have e : (madeCells #[Value.int .u8 0] (m * 1)) = (List.replicate m (Value.int .u8 0)).toArray := by
  apply Array.ext'
  rw [toList_madeCells_one, Nat.mul_one]
 have h := heap_alloc_new w (.cells (madeCells #[Value.int .u8 0] (m * 1)) 5)
 rw [e] at h
 rw [show (Value.int IntKind.u8 0).cells = #[Value.int IntKind.u8 0] from rfl, e]
 simpa using h

/-- copy into a new row: the row then holds the bytes. -/
theorem copy_new {w w0 : World} {ops : Array Oper} {rest : List Oper} {o : Oper} {a : Act} {Q : Exit → Act → World → Prop} (hgd : o.guard = none) (d s : Operand)
  (ho : o.op = .call { callee := .builtin .copy, args := #[d, s], argTypes := #[56, 56] }) (g n m : Nat) (hd : a.eval d = .slice (some ⟨g, 0, none⟩) n m) (A : Option Addr) (cap : Nat) (zs : List Int)
  (hs : a.eval s = .slice A n cap) (hS : Sl w A n cap zs) (hg : w.heap[g]? = some (.cells (List.replicate m (Value.int .u8 0)).toArray 5 (0, 0))) (hnm : n ≤ m) (hm : m ≤ 2000000) (B : Nat) (hb : Below B w0 w) (hBg : B ≤ g)
  (h : ∀ w', Own w' B (.slice (some ⟨g, 0, none⟩) n m) zs → Below B w0 w' → wpList Tryz.prog ops Q rest (a.put o.dst (goInt n)) w') : wpList Tryz.prog ops Q (o :: rest) a w := by
 have hsz : (zs.map (Value.int .u8)).length = n := by rw [List.length_map, hS.sz]
 refine wpList_copy_splice hgd d s 56 56 ho 5 Tryz.underlying56 (by kernel_rfl) (some ⟨g, 0, none⟩) A n m n cap hd hs g 0 (List.replicate m (Value.int .u8 0)) 5 hg (zs.map (Value.int .u8)) (by rw [hsz]; exact (Nat.min_self n).symm) ?_ (by rw [hsz]; simp; exact hnm) (one8 zs) B w0 hb hBg ?_
 ·intro h0
  obtain ⟨b, off, rfl, hl, hc⟩ := hS.cell (by omega)
  refine ⟨rfl, _, rfl, fun j v hv => ?_⟩
  rw [List.getElem?_map] at hv
  have hj : j < zs.length := by
   rcases Nat.lt_or_ge j zs.length with h | h
   ·exact h
   ·rw [List.getElem?_eq_none h] at hv; cases hv
  rw [Addr.add_lit, hc j (by rw [← hS.sz]; exact hj), ← hv, List.getD_eq_getElem?_getD, List.getElem?_eq_getElem hj]
  rfl
 ·intro w' hh hb'
  rw [hsz]
  refine h w' ?_ hb'
  have hz := hS.sz
  subst hz
  refine ⟨by simp, .inr ⟨g, m, _, rfl, hBg, hh.out, hnm, by unfold maxLen; omega, ?_, ?_⟩⟩
  ·simp [splice]; omega
  ·simp [splice]
set_option maxHeartbeats 400000 in
theorem copied_any (a : Option Addr) (len cap : Nat) (zs : List Int) (hl : len ≤ 900000) (w : World) (h : Sl w a len cap zs) :
  Calls Tryz.prog 181 #[.slice a len cap] w (OwnPost w.heap.size w zs) := by
 have H := hid h
 have hz := h.sz
 subst hz
 clear h
 go_enter Tryz.func181, Tryz.ntmps181
 go_wp2_with (first
  | ((with_reducible refine wpList_room rfl rfl zs.length (zs.length + 16) (zs.length : Int) ((zs.length : Int) + 16) ?_ ?_ rfl (by omega) (by omega) (by omega) ?_); (rfl); (rfl); intro w1 hh hb hlt; have Hh := hid hh; have Hb := hid hb; clear hh hb)
  | ((with_reducible refine copy_new rfl (.tmp 10) (.tmp 11) ?_ w.heap.size zs.length (zs.length + 16) ?_ a cap zs ?_ (H.out.below Hb.out) Hh.out (by omega) (by omega) w.heap.size Hb.out (Nat.le_refl _) ?_); (rfl); (rfl); (rfl); intro w2 hown hb2; have HO := hid hown; have HB2 := hid hb2; clear hown hb2))
 go_ret
 exact own_post HO.out HB2.out
end Go.Proofs.YtablocpcgknmaaaGreatDoor.Cd
/- The walks of addInt, Int, PutInt, PutBool and SameBytes. Bounds: at most a million bytes. -/
namespace Go.Proofs.YtablocpcgknmaaaGreatDoor.Cd
open Go.Lib (hid)
set_option maxRecDepth 100000
open Go.RowKit
set_option linter.unusedVariables false

theorem new_cell (w : World) (C : Array Value) (t : TypeId) (f : Nat × Nat) (j : Nat) : (w.alloc (.cells C t f)).cell? ⟨w.heap.size, j, none⟩ = C[j]? := by
 have := cell_of_row (w.alloc (.cells C t f)) w.heap.size j C t f (heap_alloc_new w _)
 simpa using this
theorem sl_one (w : World) (z : Int) (h0 : 0 ≤ z) (h1 : z ≤ 255) (c : Nat) (hc : 1 ≤ c) (t : TypeId) (f : Nat × Nat) : Sl (w.alloc (.cells #[.int .u8 z] t f)) (some ⟨w.heap.size, 0, none⟩) 1 c [z] :=
 ⟨rfl, by simp; omega, hc, (fun h => by cases h), fun _ => ⟨w.heap.size, 0, rfl, by simp, fun i hi => by
  rw [new_cell]
  obtain rfl : i = 0 := by omega
  rfl⟩⟩
theorem Own.alloc {w : World} {B : Nat} {v : Value} {zs : List Int} (h : Own w B v zs) (o : Obj) : Own (w.alloc o) B v zs := World.ownsRow.alloc h o

/-- One append of a single byte. -/
theorem app_byte {w : World} {ops : Array Oper} {rest : List Oper} {o : Oper} {a : Act} {Q : Exit → Act → World → Prop} (hgd : o.guard = none) (s x : Operand)
  (ho : o.op = .call { callee := .builtin .append, args := #[s, x], argTypes := #[56, 56] }) {B : Nat}
  (v : Value) (xs : List Int) (hs : a.eval s = v) (hown : Own w B v xs) (hB : B ≤ w.heap.size) (z : Int) (hz : 0 ≤ z ∧ z ≤ 255) (t : TypeId) (f : Nat × Nat)
  (hx : a.eval x = .slice (some ⟨w.heap.size, 0, none⟩) 1 1) (hn : xs.length ≤ 999000)
  (h : ∀ v' w', Own w' B v' (xs ++ [z]) → Below B w w' → wpList Tryz.prog ops Q rest (a.put o.dst v') w') : wpList Tryz.prog ops Q (o :: rest) a (w.alloc (.cells #[.int .u8 z] t f)) :=
 app_bytes hgd s x ho v xs hs (hown.alloc _) (by simp; omega) _ 1 1 [z] hx (sl_one w z hz.1 hz.2 1 (Nat.le_refl _) t f) (by omega) fun v' w' h1 h2 => h v' w' h1 (((Below.refl B w).alloc hB _).trans h2)

theorem or128 (r : Nat) : bits .or .u8 ((r : Int) % 256) 128 = ((r % 128 + 128 : Nat) : Int) := by
 have e : (r : Int) % 256 = ((r % 256 : Nat) : Int) := by omega
 have h1 : (BitVec.ofInt 8 ((r % 256 : Nat) : Int)).toNat = r % 256 := by rw [BitVec.ofInt_natCast, BitVec.toNat_ofNat]; exact Nat.mod_eq_of_lt (by omega)
 have h2 : (BitVec.ofInt 8 (128 : Int)).toNat = 128 := by decide
 rw [e]
 show IntKind.u8.wrap ((BitVec.ofInt 8 ((r % 256 : Nat) : Int) ||| BitVec.ofInt 8 128).toNat : Int) = _
 rw [BitVec.toNat_or, h1, h2, IntKind.wrap_u8]
 have h3 : ∀ x : Fin 256, (x.val ||| 128) % 256 = x.val % 128 + 128 := by decide +kernel
 have h4 := h3 ⟨r % 256, by omega⟩
 simp only at h4
 omega
theorem u64_div {r : Nat} (h : C.lt64 r) : IntKind.u64.wrap ((r : Int) / 128) = (r : Int) / 128 := by
 have := (C.lt64_iff r).1 h
 rw [IntKind.wrap_u64]; omega
set_option maxRecDepth 100000 in
set_option maxHeartbeats 800000 in
theorem addInt_pos (n : Int) (h0 : 0 ≤ n) (h1 : n ≤ 9223372036854775807) (B : Nat) (A : Option Addr) (c : Nat) (zs : List Int) (w : World) (hown : Own w B (.slice A zs.length c) zs) (hB : B ≤ w.heap.size) (hz : zs.length ≤ 900000) :
  Calls Tryz.prog 182 #[.slice A zs.length c, .int .i64 n] w (OwnPost B w (zs ++ C.enc (C.zig n))) := by
 have HO := hid hown
 have HZ := hid (C.zig_lt ((C.in64_iff n).2 (by omega)))
 have hor := C.zig_own h0 h1
 obtain ⟨u, hu⟩ : ∃ u, u = C.zig n := ⟨_, rfl⟩
 rw [← hu] at hor HZ ⊢
 clear hown hu
 go_enter Tryz.func182, Tryz.ntmps182
 go_wp2
 clear hor
 go_loopw [0, 5] (fun v x wr => ∃ (A : Option Addr) (c : Nat) (ys : List Int) (r : Nat), v = .slice A ys.length c ∧ x = .int .u64 r ∧ ys.length ≤ zs.length + 11 ∧ Hid (C.lt64 r) ∧ Hid (ys ++ C.enc r = zs ++ C.enc u) ∧ Hid (Own wr B (.slice A ys.length c) ys) ∧ Hid (Below B w wr)) (fun _ x _ => (intOf x).toNat)
 case atStart => exact ⟨A, c, zs, u, rfl, rfl, by omega, HZ, hid rfl, HO, hid (Below.refl _ _)⟩
 case round =>
  obtain ⟨A, c, ys, r, rfl, rfl, hy, HR, HE, HOy, HB⟩ := hrel
  have hBr := HB.out.size
  by_cases h : r < 128
  ·have HF := hid (show ys ++ [(r : Int)] = zs ++ C.enc u by rw [← HE.out, C.enc_small h])
   go_wp2_with (at_builtin; (with_reducible refine app_byte rfl (.tmp 23) (.tmp 26) ?_ _ ys ?_ HOy.out (by omega) _ ?_ _ _ ?_ (by omega) ?_); (rfl); (rfl); (omega); (rfl); intro v1 w1 hown1 hb1; rw [HF.out] at hown1; have HP := hid (own_post hown1 (HB.out.trans hb1)); clear hown1 hb1)
   go_ret
   exact HP.out
  ·obtain ⟨q, hq⟩ : ∃ q : Nat, q = r % 128 + 128 := ⟨_, rfl⟩
   have hor := or128 r
   rw [← hq] at hor
   have hq1 : q ≤ 255 := by omega
   have hlen := congrArg List.length HE.out
   rw [List.length_append, List.length_append] at hlen
   have hrl := (C.enc_bd HR.out).2.1
   have hrl2 := (C.enc_bd (C.lt64_div HR.out)).2.1
   have hul := (C.enc_bd HZ.out).2.2
   have heb := congrArg List.length (C.enc_big h HR.out)
   rw [List.length_cons] at heb
   have HE2 := hid (show (ys ++ [(q : Int)]) ++ C.enc (r / 128) = zs ++ C.enc u by rw [← HE.out, C.enc_big h HR.out, ← hq, List.append_assoc]; rfl)
   have hyl : ys.length + 1 ≤ zs.length + 11 := by omega
   clear hq hlen hrl hrl2 hul heb
   go_wp2_with (at_builtin; (with_reducible refine app_byte rfl (.tmp 15) (.tmp 19) ?_ _ ys ?_ HOy.out (by omega) _ ?_ _ _ ?_ (by omega) ?_); (rfl); (rfl); (omega); (rfl); intro v1 w1 hown1 hb1; obtain ⟨A1, c1, rfl⟩ := own_shape hown1; have HO1 := hid hown1; have HB1 := hid (HB.out.trans hb1); clear hown1 hb1)
   go_roundw
   case rel => exact ⟨A1, c1, ys ++ [(q : Int)], r / 128, by rw [List.length_append]; rfl, by go_num, by rw [List.length_append]; exact hyl, hid (C.lt64_div HR.out), HE2, HO1, HB1⟩
   case measure => simp [intOf]; omega

set_option maxRecDepth 100000 in
set_option maxHeartbeats 800000 in
theorem addInt_neg (n : Int) (h0 : n < 0) (h1 : -9223372036854775808 ≤ n) (B : Nat) (A : Option Addr) (c : Nat) (zs : List Int) (w : World) (hown : Own w B (.slice A zs.length c) zs) (hB : B ≤ w.heap.size) (hz : zs.length ≤ 900000) :
  Calls Tryz.prog 182 #[.slice A zs.length c, .int .i64 n] w (OwnPost B w (zs ++ C.enc (C.zig n))) := by
 have HO := hid hown
 have HZ := hid (C.zig_lt ((C.in64_iff n).2 (by omega)))
 have hor := C.zig_own_neg h0 h1
 obtain ⟨u, hu⟩ : ∃ u, u = C.zig n := ⟨_, rfl⟩
 rw [← hu] at hor HZ ⊢
 clear hown hu
 go_enter Tryz.func182, Tryz.ntmps182
 go_wp2
 clear hor
 go_loopw [0, 5] (fun v x wr => ∃ (A : Option Addr) (c : Nat) (ys : List Int) (r : Nat), v = .slice A ys.length c ∧ x = .int .u64 r ∧ ys.length ≤ zs.length + 11 ∧ Hid (C.lt64 r) ∧ Hid (ys ++ C.enc r = zs ++ C.enc u) ∧ Hid (Own wr B (.slice A ys.length c) ys) ∧ Hid (Below B w wr)) (fun _ x _ => (intOf x).toNat)
 case atStart => exact ⟨A, c, zs, u, rfl, rfl, by omega, HZ, hid rfl, HO, hid (Below.refl _ _)⟩
 case round =>
  obtain ⟨A, c, ys, r, rfl, rfl, hy, HR, HE, HOy, HB⟩ := hrel
  have hBr := HB.out.size
  by_cases h : r < 128
  ·have HF := hid (show ys ++ [(r : Int)] = zs ++ C.enc u by rw [← HE.out, C.enc_small h])
   go_wp2_with (at_builtin; (with_reducible refine app_byte rfl (.tmp 23) (.tmp 26) ?_ _ ys ?_ HOy.out (by omega) _ ?_ _ _ ?_ (by omega) ?_); (rfl); (rfl); (omega); (rfl); intro v1 w1 hown1 hb1; rw [HF.out] at hown1; have HP := hid (own_post hown1 (HB.out.trans hb1)); clear hown1 hb1)
   go_ret
   exact HP.out
  ·obtain ⟨q, hq⟩ : ∃ q : Nat, q = r % 128 + 128 := ⟨_, rfl⟩
   have hor := or128 r
   rw [← hq] at hor
   have hq1 : q ≤ 255 := by omega
   have hlen := congrArg List.length HE.out
   rw [List.length_append, List.length_append] at hlen
   have hrl := (C.enc_bd HR.out).2.1
   have hrl2 := (C.enc_bd (C.lt64_div HR.out)).2.1
   have hul := (C.enc_bd HZ.out).2.2
   have heb := congrArg List.length (C.enc_big h HR.out)
   rw [List.length_cons] at heb
   have HE2 := hid (show (ys ++ [(q : Int)]) ++ C.enc (r / 128) = zs ++ C.enc u by rw [← HE.out, C.enc_big h HR.out, ← hq, List.append_assoc]; rfl)
   have hyl : ys.length + 1 ≤ zs.length + 11 := by omega
   clear hq hlen hrl hrl2 hul heb
   go_wp2_with (at_builtin; (with_reducible refine app_byte rfl (.tmp 15) (.tmp 19) ?_ _ ys ?_ HOy.out (by omega) _ ?_ _ _ ?_ (by omega) ?_); (rfl); (rfl); (omega); (rfl); intro v1 w1 hown1 hb1; obtain ⟨A1, c1, rfl⟩ := own_shape hown1; have HO1 := hid hown1; have HB1 := hid (HB.out.trans hb1); clear hown1 hb1)
   go_roundw
   case rel => exact ⟨A1, c1, ys ++ [(q : Int)], r / 128, by rw [List.length_append]; rfl, by go_num, by rw [List.length_append]; exact hyl, hid (C.lt64_div HR.out), HE2, HO1, HB1⟩
   case measure => simp [intOf]; omega

set_option maxRecDepth 100000 in
set_option maxHeartbeats 800000 in
theorem rint_pos (n : Int) (h0 : 0 ≤ n) (h1 : n ≤ 9223372036854775807) (w : World) :
  Calls Tryz.prog 139 #[.int .i64 n] w (OwnPost w.heap.size w (C.enc (C.zig n))) := by
 have HZ := hid (C.zig_lt ((C.in64_iff n).2 (by omega)))
 have hor := C.zig_ref h0
 obtain ⟨u, hu⟩ : ∃ u, u = C.zig n := ⟨_, rfl⟩
 rw [← hu] at hor HZ ⊢
 clear hu
 go_enter Tryz.func139, Tryz.ntmps139
 go_wp2
 clear hor
 go_loopw [3, 4] (fun x v wr => ∃ (A : Option Addr) (c : Nat) (ys : List Int) (r : Nat), v = .slice A ys.length c ∧ x = .int .u64 r ∧ ys.length ≤ 11 ∧ Hid (C.lt64 r) ∧ Hid (ys ++ C.enc r = C.enc u) ∧ Hid (Own wr w.heap.size (.slice A ys.length c) ys) ∧ Hid (Below w.heap.size w wr)) (fun x _ _ => (intOf x).toNat)
 case atStart => exact ⟨none, 0, [], u, rfl, rfl, by simp, HZ, hid rfl, hid (World.ownsRow_nil _ _ _ _), hid (Below.refl _ _)⟩
 case round =>
  obtain ⟨A, c, ys, r, rfl, rfl, hy, HR, HE, HOy, HB⟩ := hrel
  have hBr := HB.out.size
  by_cases h : r < 128
  ·have HF := hid (show ys ++ [(r : Int)] = C.enc u by rw [← HE.out, C.enc_small h])
   go_wp2_with (at_builtin; (with_reducible refine app_byte rfl (.tmp 23) (.tmp 26) ?_ _ ys ?_ HOy.out (by omega) _ ?_ _ _ ?_ (by omega) ?_); (rfl); (rfl); (omega); (rfl); intro v1 w1 hown1 hb1; rw [HF.out] at hown1; have HP := hid (own_post hown1 (HB.out.trans hb1)); clear hown1 hb1)
   go_ret
   exact HP.out
  ·have hlen := congrArg List.length HE.out
   rw [List.length_append] at hlen
   have hrl := (C.enc_bd HR.out).2.1
   have hrl2 := (C.enc_bd (C.lt64_div HR.out)).2.1
   have hul := (C.enc_bd HZ.out).2.2
   have heb := congrArg List.length (C.enc_big h HR.out)
   rw [List.length_cons] at heb
   have HE2 := hid (show (ys ++ [((r % 128 + 128 : Nat) : Int)]) ++ C.enc (r / 128) = C.enc u by rw [← HE.out, C.enc_big h HR.out, List.append_assoc]; rfl)
   have hyl : ys.length + 1 ≤ 11 := by omega
   have hcast : (r : Int) % 128 + 128 = ((r % 128 + 128 : Nat) : Int) := by omega
   have HC := hid hcast
   have hwd := u64_div HR.out
   clear hlen hrl hrl2 hul heb hcast
   go_wp2_with (at_builtin; (with_reducible refine app_byte rfl (.tmp 14) (.tmp 19) ?_ _ ys ?_ HOy.out (by omega) _ ?_ _ _ ?_ (by omega) ?_); (rfl); (rfl); (omega); (rfl); intro v1 w1 hown1 hb1; rw [HC.out] at hown1; obtain ⟨A1, c1, rfl⟩ := own_shape hown1; have HO1 := hid hown1; have HB1 := hid (HB.out.trans hb1); clear hown1 hb1)
   go_roundw
   case rel => exact ⟨A1, c1, _, r / 128, by rw [List.length_append]; rfl, by go_num, by rw [List.length_append]; exact hyl, hid (C.lt64_div HR.out), HE2, HO1, HB1⟩
   case measure => simp [intOf]; omega

set_option maxRecDepth 100000 in
set_option maxHeartbeats 800000 in
theorem rint_neg (n : Int) (h0 : n < 0) (h1 : -9223372036854775808 ≤ n) (w : World) :
  Calls Tryz.prog 139 #[.int .i64 n] w (OwnPost w.heap.size w (C.enc (C.zig n))) := by
 have HZ := hid (C.zig_lt ((C.in64_iff n).2 (by omega)))
 have hor := C.zig_ref_neg h0 h1
 obtain ⟨u, hu⟩ : ∃ u, u = C.zig n := ⟨_, rfl⟩
 rw [← hu] at hor HZ ⊢
 clear hu
 go_enter Tryz.func139, Tryz.ntmps139
 go_wp2
 clear hor
 go_loopw [3, 4] (fun x v wr => ∃ (A : Option Addr) (c : Nat) (ys : List Int) (r : Nat), v = .slice A ys.length c ∧ x = .int .u64 r ∧ ys.length ≤ 11 ∧ Hid (C.lt64 r) ∧ Hid (ys ++ C.enc r = C.enc u) ∧ Hid (Own wr w.heap.size (.slice A ys.length c) ys) ∧ Hid (Below w.heap.size w wr)) (fun x _ _ => (intOf x).toNat)
 case atStart => exact ⟨none, 0, [], u, rfl, rfl, by simp, HZ, hid rfl, hid (World.ownsRow_nil _ _ _ _), hid (Below.refl _ _)⟩
 case round =>
  obtain ⟨A, c, ys, r, rfl, rfl, hy, HR, HE, HOy, HB⟩ := hrel
  have hBr := HB.out.size
  by_cases h : r < 128
  ·have HF := hid (show ys ++ [(r : Int)] = C.enc u by rw [← HE.out, C.enc_small h])
   go_wp2_with (at_builtin; (with_reducible refine app_byte rfl (.tmp 23) (.tmp 26) ?_ _ ys ?_ HOy.out (by omega) _ ?_ _ _ ?_ (by omega) ?_); (rfl); (rfl); (omega); (rfl); intro v1 w1 hown1 hb1; rw [HF.out] at hown1; have HP := hid (own_post hown1 (HB.out.trans hb1)); clear hown1 hb1)
   go_ret
   exact HP.out
  ·have hlen := congrArg List.length HE.out
   rw [List.length_append] at hlen
   have hrl := (C.enc_bd HR.out).2.1
   have hrl2 := (C.enc_bd (C.lt64_div HR.out)).2.1
   have hul := (C.enc_bd HZ.out).2.2
   have heb := congrArg List.length (C.enc_big h HR.out)
   rw [List.length_cons] at heb
   have HE2 := hid (show (ys ++ [((r % 128 + 128 : Nat) : Int)]) ++ C.enc (r / 128) = C.enc u by rw [← HE.out, C.enc_big h HR.out, List.append_assoc]; rfl)
   have hyl : ys.length + 1 ≤ 11 := by omega
   have hcast : (r : Int) % 128 + 128 = ((r % 128 + 128 : Nat) : Int) := by omega
   have HC := hid hcast
   have hwd := u64_div HR.out
   clear hlen hrl hrl2 hul heb hcast
   go_wp2_with (at_builtin; (with_reducible refine app_byte rfl (.tmp 14) (.tmp 19) ?_ _ ys ?_ HOy.out (by omega) _ ?_ _ _ ?_ (by omega) ?_); (rfl); (rfl); (omega); (rfl); intro v1 w1 hown1 hb1; rw [HC.out] at hown1; obtain ⟨A1, c1, rfl⟩ := own_shape hown1; have HO1 := hid hown1; have HB1 := hid (HB.out.trans hb1); clear hown1 hb1)
   go_roundw
   case rel => exact ⟨A1, c1, _, r / 128, by rw [List.length_append]; rfl, by go_num, by rw [List.length_append]; exact hyl, hid (C.lt64_div HR.out), HE2, HO1, HB1⟩
   case measure => simp [intOf]; omega

theorem addInt_any (n : Int) (hn : C.in64 n) (B : Nat) (A : Option Addr) (c : Nat) (zs : List Int) (w : World) (hown : Own w B (.slice A zs.length c) zs) (hB : B ≤ w.heap.size) (hz : zs.length ≤ 900000) :
  Calls Tryz.prog 182 #[.slice A zs.length c, .int .i64 n] w (OwnPost B w (zs ++ C.enc (C.zig n))) := by
 have h := (C.in64_iff n).1 hn
 rcases Int.lt_or_le n 0 with h0 | h0
 ·exact addInt_neg n h0 h.1 B A c zs w hown hB hz
 ·exact addInt_pos n h0 h.2 B A c zs w hown hB hz
theorem rint_any (n : Int) (hn : C.in64 n) (w : World) : Calls Tryz.prog 139 #[.int .i64 n] w (OwnPost w.heap.size w (C.enc (C.zig n))) := by
 have h := (C.in64_iff n).1 hn
 rcases Int.lt_or_le n 0 with h0 | h0
 ·exact rint_neg n h0 h.1 w
 ·exact rint_pos n h0 h.2 w
end Go.Proofs.YtablocpcgknmaaaGreatDoor.Cd
/- The walks of PutInt, PutBool, SameBytes, addList over integers and PutInts. Bounds: at most some hundred thousand bytes. -/
namespace Go.Proofs.YtablocpcgknmaaaGreatDoor.Cd
open Go.Lib (hid)
set_option maxRecDepth 100000
open Go.RowKit
set_option linter.unusedVariables false

theorem OwnPost.sl {B : Nat} {w w' : World} {A : Option Addr} {c : Nat} {zs : List Int} (h : Own w' B (.slice A zs.length c) zs) (hz : ∀ z ∈ zs, 0 ≤ z ∧ z ≤ 255) : Sl w' A zs.length c zs := by
 obtain ⟨A', c', e, hs⟩ := Own.sl h hz
 injection e with e1 e2 e3
 subst e1 e3
 exact hs

theorem ret_slice {A : Option Addr} {n m c : Nat} (h : n = m) : Ending.returned (.slice A n c) = .returned (.slice A m c) := by rw [h]
theorem own_below {w w' : World} {B : Nat} {v : Value} {zs : List Int} (h : Own w B v zs) (hb : Below w.heap.size w w') : Own w' B v zs := by
 rcases h.2 with ⟨rfl, h0⟩ | ⟨g, cap, cur, rfl, hbg, hg, hnc, hcm, hcs, htk⟩
 ·exact ⟨h.1, .inl ⟨rfl, h0⟩⟩
 ·exact ⟨h.1, .inr ⟨g, cap, cur, rfl, hbg, (hb.block g (lt_of_block hg)).trans hg, hnc, hcm, hcs, htk⟩⟩
set_option maxHeartbeats 400000 in
theorem putInt_any (a : Option Addr) (len cap : Nat) (zs : List Int) (n : Int) (hn : C.in64 n) (hl : len ≤ 800000) (w : World) (h : Sl w a len cap zs) :
  Calls Tryz.prog 115 #[.slice a len cap, .int .i64 n] w (OwnPost w.heap.size w (zs ++ C.enc (C.zig n))) := by
 have H := hid h
 have hz := h.sz
 subst hz
 clear h
 go_enter Tryz.func115, Tryz.ntmps115
 go_wp2_with (first
  | (go_at_call 181; refine (copied_any a _ cap zs (by omega) _ H.out).mono ?_; rintro e w1 ⟨A1, c1, rfl, ho1, hb1⟩; have HO := hid ho1; have HB := hid hb1; clear ho1 hb1)
  | (go_at_call 182; refine (addInt_any n hn w.heap.size A1 c1 zs _ HO.out HB.out.size (by omega)).mono ?_; rintro e w2 ⟨A2, c2, rfl, ho2, hb2⟩; have HO2 := hid ho2; have HB2 := hid (HB.out.trans hb2); clear ho2 hb2))
 go_ret
 exact ⟨A2, c2, ret_slice (by rw [List.length_append]), HO2.out, HB2.out⟩
theorem lit_own (w : World) : Own (w.alloc (.cells #[] 5)) w.heap.size (.slice (some ⟨w.heap.size, 0, none⟩) 0 0) [] :=
 World.ownsRow_lit (base := w.heap.size) (e := 5) (size := 1) w #[] 0 (Nat.le_refl _) (by decide) rfl
set_option maxHeartbeats 400000 in
theorem rputInt_any (a : Option Addr) (len cap : Nat) (zs : List Int) (n : Int) (hn : C.in64 n) (hl : len ≤ 800000) (w : World) (h : Sl w a len cap zs) :
  Calls Tryz.prog 79 #[.slice a len cap, .int .i64 n] w (OwnPost w.heap.size w (zs ++ C.enc (C.zig n))) := by
 have H := hid h
 have hz := h.sz
 subst hz
 clear h
 have HE := hid (C.enc_bd (C.zig_lt hn))
 have HA := hid ((Below.refl w.heap.size w).alloc (Nat.le_refl _) (.cells #[] 5))
 go_enter Tryz.func79, Tryz.ntmps79
 go_wp2_with (first
  | (at_builtin; (with_reducible refine app_bytes rfl (.tmp 5) (.tmp 6) ?_ (B := w.heap.size) _ [] ?_ (lit_own w) ?_ a zs.length cap zs ?_ (H.out.below HA.out) (by simp; omega) ?_); (rfl); (rfl); (simp); (rfl); intro v1 w1 ho1 hb1; rw [List.nil_append] at ho1; obtain ⟨A1, c1, rfl⟩ := own_shape ho1; have HO := hid ho1; have HB := hid (HA.out.trans hb1); clear ho1 hb1)
  | (go_at_call 139; refine (rint_any n hn _).mono ?_; rintro e w2 ⟨A2, c2, rfl, ho2, hb2⟩; have HO2 := hid ho2; have HB2 := hid hb2; clear ho2 hb2)
  | (at_builtin; (with_reducible refine app_bytes rfl (.tmp 7) (.tmp 9) ?_ (B := w.heap.size) _ zs ?_ (own_below HO.out HB2.out) (Nat.le_trans HB.out.size HB2.out.size) A2 _ c2 (C.enc (C.zig n)) ?_ (OwnPost.sl (w := w) HO2.out HE.out.1) (by have := HE.out.2.2; omega) ?_); (rfl); (rfl); (rfl); intro v3 w3 ho3 hb3; have HP := hid (own_post ho3 ((HB.out.trans (HB2.out.mono HB.out.size)).trans hb3)); clear ho3 hb3))
 go_ret
 exact HP.out
set_option maxHeartbeats 400000 in
theorem putBool_any (a : Option Addr) (len cap : Nat) (zs : List Int) (b : Bool) (hl : len ≤ 800000) (w : World) (h : Sl w a len cap zs) :
  Calls Tryz.prog 116 #[.slice a len cap, .bool b] w (OwnPost w.heap.size w (zs ++ [if b then (1 : Int) else 0])) := by
 have H := hid h
 have hz := h.sz
 subst hz
 clear h
 cases b
 ·go_enter Tryz.func116, Tryz.ntmps116
  go_wp2_with (first
   | (go_at_call 181; refine (copied_any a _ cap zs (by omega) _ H.out).mono ?_; rintro e w1 ⟨A1, c1, rfl, ho1, hb1⟩; have HO := hid ho1; have HB := hid hb1; clear ho1 hb1)
   | (at_builtin; (with_reducible refine app_byte rfl (.tmp 11) (.tmp 12) ?_ (B := w.heap.size) _ zs ?_ HO.out HB.out.size 0 ?_ _ _ ?_ (by omega) ?_); (rfl); (rfl); (omega); (rfl); intro v1 w2 ho2 hb2; have HP := hid (own_post ho2 (HB.out.trans hb2)); clear ho2 hb2))
  go_ret
  exact HP.out
 ·go_enter Tryz.func116, Tryz.ntmps116
  go_wp2_with (first
   | (go_at_call 181; refine (copied_any a _ cap zs (by omega) _ H.out).mono ?_; rintro e w1 ⟨A1, c1, rfl, ho1, hb1⟩; have HO := hid ho1; have HB := hid hb1; clear ho1 hb1)
   | (at_builtin; (with_reducible refine app_byte rfl (.tmp 7) (.tmp 8) ?_ (B := w.heap.size) _ zs ?_ HO.out HB.out.size 1 ?_ _ _ ?_ (by omega) ?_); (rfl); (rfl); (omega); (rfl); intro v1 w2 ho2 hb2; have HP := hid (own_post ho2 (HB.out.trans hb2)); clear ho2 hb2))
  go_ret
  exact HP.out
set_option maxHeartbeats 400000 in
theorem rputBool_any (a : Option Addr) (len cap : Nat) (zs : List Int) (b : Bool) (hl : len ≤ 800000) (w : World) (h : Sl w a len cap zs) :
  Calls Tryz.prog 81 #[.slice a len cap, .bool b] w (OwnPost w.heap.size w (zs ++ [if b then (1 : Int) else 0])) := by
 have H := hid h
 have hz := h.sz
 subst hz
 clear h
 have HA := hid ((Below.refl w.heap.size w).alloc (Nat.le_refl _) (.cells #[] 5))
 cases b
 ·go_enter Tryz.func81, Tryz.ntmps81
  go_wp2_with (first
   | (at_builtin; (with_reducible refine app_bytes rfl (.tmp 6) (.tmp 7) ?_ (B := w.heap.size) _ [] ?_ (lit_own w) ?_ a zs.length cap zs ?_ (H.out.below HA.out) (by simp; omega) ?_); (rfl); (rfl); (simp); (rfl); intro v1 w1 ho1 hb1; rw [List.nil_append] at ho1; obtain ⟨A1, c1, rfl⟩ := own_shape ho1; have HO := hid ho1; have HB := hid (HA.out.trans hb1); clear ho1 hb1)
   | (at_builtin; (with_reducible refine app_byte rfl (.tmp 13) (.tmp 14) ?_ (B := w.heap.size) _ zs ?_ HO.out HB.out.size 0 ?_ _ _ ?_ (by omega) ?_); (rfl); (rfl); (omega); (rfl); intro v1 w2 ho2 hb2; have HP := hid (own_post ho2 (HB.out.trans hb2)); clear ho2 hb2))
  go_ret
  exact HP.out
 ·go_enter Tryz.func81, Tryz.ntmps81
  go_wp2_with (first
   | (at_builtin; (with_reducible refine app_bytes rfl (.tmp 6) (.tmp 7) ?_ (B := w.heap.size) _ [] ?_ (lit_own w) ?_ a zs.length cap zs ?_ (H.out.below HA.out) (by simp; omega) ?_); (rfl); (rfl); (simp); (rfl); intro v1 w1 ho1 hb1; rw [List.nil_append] at ho1; obtain ⟨A1, c1, rfl⟩ := own_shape ho1; have HO := hid ho1; have HB := hid (HA.out.trans hb1); clear ho1 hb1)
   | (at_builtin; (with_reducible refine app_byte rfl (.tmp 10) (.tmp 11) ?_ (B := w.heap.size) _ zs ?_ HO.out HB.out.size 1 ?_ _ _ ?_ (by omega) ?_); (rfl); (rfl); (omega); (rfl); intro v1 w2 ho2 hb2; have HP := hid (own_post ho2 (HB.out.trans hb2)); clear ho2 hb2))
  go_ret
  exact HP.out

/-- The text of a slice of bytes. -/
theorem conv_sl {w : World} {A : Option Addr} {n c : Nat} {zs : List Int} (h : Sl w A n c zs) : (convert 56 9 (.slice A n c)).run Tryz.prog w = .ok (.string (strOfNums zs)) w := by
 rcases Nat.eq_zero_or_pos n with h0 | h0
 ·subst h0
  have hz : zs = [] := List.eq_nil_of_length_eq_zero h.sz
  subst hz
  cases A with
  | none => exact run_convert_bytes_nil w 56 5 Tryz.underlying56 Tryz.underlying5 0 c 9 Tryz.underlying9
  | some a =>
   rw [run_convert_bytes_string w 56 9 5 (some a) 0 c Tryz.underlying56 Tryz.underlying5 Tryz.underlying9]
   have := run_bytesToString (P := Tryz.prog) w a 0 c [] (by simp [loadCells, loadCellsFrom])
   rw [this]
   rfl
 ·obtain ⟨b, off, rfl, _, hcell⟩ := h.cell h0
  exact run_convert_bytes_arg w 56 5 Tryz.underlying56 Tryz.underlying5 b off n c zs h.sz hcell 9 Tryz.underlying9
end Go.Proofs.YtablocpcgknmaaaGreatDoor.Cd
/- The walk of cutInt. -/
namespace Go.Proofs.YtablocpcgknmaaaGreatDoor.Cd
open Go.Lib (hid)
set_option maxRecDepth 100000
open Go.RowKit
set_option linter.unusedVariables false

/-- What a function that reads leaves: nothing, or a value and the bytes behind it. -/
def Got (z : Value) (r : Option (Value × List Int)) (w : World) (e : Ending) (w' : World) : Prop :=
 Below w.heap.size w w' ∧ match r with
 | none => e = .returned (.tuple #[z, .slice none 0 0, .bool false])
 | some (x, rest) => ∃ A c, e = .returned (.tuple #[x, .slice A rest.length c, .bool true]) ∧ Sl w' A rest.length c rest
def gi (zs : List Int) : Option (Value × List Int) := match C.dec zs with
 | none => none
 | some (u, k) => some (.int .i64 (C.zag u), zs.drop k)
theorem gi_none {zs : List Int} (h : C.dec zs = none) : gi zs = none := by unfold gi; rw [h]
theorem gi_some {zs : List Int} {u k : Nat} (h : C.dec zs = some (u, k)) : gi zs = some (.int .i64 (C.zag u), zs.drop k) := by unfold gi; rw [h]

theorem got_some {z x v : Value} {r : Option (Value × List Int)} {rest : List Int} {w w' : World} {A : Option Addr} {n c : Nat} (h : r = some (x, rest)) (he : v = x) (hn : n = rest.length) (hs : Sl w' A n c rest) (hb : Below w.heap.size w w') :
  Got z r w (.returned (.tuple #[v, .slice A n c, .bool true])) w' := by
 subst h he hn
 exact ⟨hb, A, c, rfl, hs⟩
theorem got_none {z : Value} {r : Option (Value × List Int)} {w w' : World} (h : r = none) (hb : Below w.heap.size w w') : Got z r w (.returned (.tuple #[z, .slice none 0 0, .bool false])) w' := by
 subst h
 exact ⟨hb, rfl⟩
theorem below_dn {B : Nat} {w w1 : World} (h : Below B w w1) (n : Nat) : Below B w (w1.drewN n) := ⟨h.os, h.tape, h.output, h.size, h.block⟩
theorem Sl.later {w : World} {b o len cap : Nat} {zs : List Int} (h : Sl w (some ⟨b, o, none⟩) len cap zs) (k : Nat) (hk : k ≤ len) : Sl w (some ⟨b, o + k, none⟩) (len - k) (cap - k) (zs.drop k) := by
 refine ⟨by rw [List.length_drop, h.sz], fun z hz => h.bd z (List.mem_of_mem_drop hz), by have := h.le; omega, (fun hn => by cases hn), fun h0 => ?_⟩
 obtain ⟨b', off, e, hl, hc⟩ := h.cell (by omega)
 injection e with e
 injection e with e1 e2
 subst e1 e2
 refine ⟨b, o + k, rfl, hl, fun i hi => ?_⟩
 rw [show o + k + i = o + (k + i) by omega, hc (k + i) (by omega), List.getD_eq_getElem?_getD, List.getD_eq_getElem?_getD, List.getElem?_drop]
theorem Sl.last {w : World} {a : Option Addr} {len cap : Nat} {zs : List Int} (h : Sl w a len cap zs) (k : Nat) (hk : cap ≤ k) (a' : Option Addr) (ha : a' = none → cap = 0) : Sl w a' (len - k) 0 (zs.drop k) := by
 have hle := h.le
 rw [List.drop_of_length_le (by rw [h.sz]; omega), Nat.sub_eq_zero_of_le (by omega)]
 exact Sl.empty w a' 0 (fun _ => rfl)
theorem zag_own {R : Nat} (h : C.lt64 R) : bits BinOp.xor IntKind.i64 (wrap64 ((R : Int) / 2)) (wrap64 (-wrap64 (bits BinOp.and IntKind.u64 (R : Int) 1))) = C.zag R := by
 have hR := (C.lt64_iff R).1 h
 have e1 : bits BinOp.and IntKind.u64 (R : Int) 1 = ((R % 2 : Nat) : Int) := by
  show IntKind.u64.wrap ((BitVec.ofInt 64 (R : Int) &&& BitVec.ofInt 64 1).toNat : Int) = _
  have h2 : (BitVec.ofInt 64 (1 : Int)).toNat = 1 := by decide
  rw [BitVec.toNat_and, C.nat64 R hR, h2, Nat.and_one_is_mod, IntKind.wrap_u64]; omega
 have e2 : wrap64 ((R : Int) / 2) = ((R / 2 : Nat) : Int) := by rw [IntWalk.wrap64_in _ (by omega)]; omega
 have e3 : wrap64 ((R % 2 : Nat) : Int) = ((R % 2 : Nat) : Int) := IntWalk.wrap64_in _ (by omega)
 have e4 : wrap64 (-((R % 2 : Nat) : Int)) = -((R % 2 : Nat) : Int) := IntWalk.wrap64_in _ (by omega)
 rw [e1, e2, e3, e4]
 have hm : (BitVec.ofInt 64 ((R / 2 : Nat) : Int)).toNat = R / 2 := C.nat64 _ (by omega)
 unfold C.zag
 by_cases h0 : R % 2 = 0
 ·rw [if_pos h0, h0]
  show IntKind.i64.wrap ((BitVec.ofInt 64 ((R / 2 : Nat) : Int) ^^^ BitVec.ofInt 64 (-((0 : Nat) : Int))).toNat : Int) = _
  have hz : (BitVec.ofInt 64 (-((0 : Nat) : Int))).toNat = 0 := by decide
  rw [BitVec.toNat_xor, hm, hz, Nat.xor_zero, IntKind.wrap_i64]; omega
 ·rw [if_neg h0, show R % 2 = 1 by omega]
  show IntKind.i64.wrap ((BitVec.ofInt 64 ((R / 2 : Nat) : Int) ^^^ BitVec.ofInt 64 (-((1 : Nat) : Int))).toNat : Int) = _
  have hz : (BitVec.ofInt 64 (-((1 : Nat) : Int))).toNat = 18446744073709551615 := by decide
  rw [BitVec.toNat_xor, hm, hz, C.xor_ones _ (by omega), IntKind.wrap_i64]; omega

set_option maxRecDepth 100000 in
set_option maxHeartbeats 1600000 in
theorem cutInt_any (a : Option Addr) (len cap : Nat) (zs : List Int) (hl : len ≤ 900000) (w : World) (h : Sl w a len cap zs) :
  Calls Tryz.prog 130 #[.slice a len cap] w (Got (.int .i64 0) (gi zs) w) := by
 have H := hid h
 have hz := h.sz
 have hcap := h.le
 subst hz
 clear h
 go_enter Tryz.func130, Tryz.ntmps130
 go_wp2
 go_loop [5, 6, 7, 10] (fun u _ _ i => ∃ (k r : Nat), k ≤ zs.length ∧ i = .int .i64 k ∧ u = .int .u64 r ∧ k ≤ 9 ∧ Hid (C.Front zs k r)) (fun _ _ _ i => zs.length - (intOf i).toNat)
 case atStart => exact ⟨0, 0, by omega, rfl, rfl, by omega, hid (C.front_zero zs)⟩
 case round =>
  obtain ⟨k, r, hk, rfl, rfl, hk9, HF⟩ := hrel
  by_cases h : k < zs.length
  ·obtain ⟨b, o, rfl, z, hz, hzk, hbl, hc⟩ := H.out.byte h
   have HZK := hid hzk
   clear hzk
   by_cases hbad : (k = 9 ∧ 1 < z) ∨ (0 < k ∧ z = 0)
   ·have HN := hid (gi_none (C.front_bad HF.out h HZK.out (by omega)))
    by_cases h9 : k = 9
    ·have e1 : ((k : Int) == 9) = true := beq_iff_eq.2 (by omega)
     have hkp : 1 ≤ k := by omega
     rcases Nat.lt_or_ge 1 z with hz1 | hz1
     ·clear hbad h9
      go_wp2
      go_ret3
      exact got_none HN.out (Below.refl _ _)
     ·have e2 : ((z : Int) == 0) = true := beq_iff_eq.2 (by omega)
      clear hbad h9
      go_wp2
      go_ret3
      exact got_none HN.out (Below.refl _ _)
    ·have e1 : ((k : Int) == 9) = false := beq_eq_false_iff_ne.2 (by omega)
     have hkp : 1 ≤ k := by omega
     have e2 : ((z : Int) == 0) = true := beq_iff_eq.2 (by omega)
     clear hbad h9
     go_wp2
     go_ret3
     exact got_none HN.out (Below.refl _ _)
   ·have hor := C.or_step (c := z) HF.out.1 hz hk9 (by omega)
    by_cases hlast : z < 128
    ·have HG := hid (gi_some (C.front_last HF.out h HZK.out (by omega) (by omega)))
     have HU := hid ((C.enc_dec H.out.bd (C.front_last HF.out h HZK.out (by omega) (by omega))).2.1)
     rw [Int.toNat_natCast] at HG HU
     have hzm : z % 128 = z := Nat.mod_eq_of_lt hlast
     rw [hzm] at hor
     generalize r + 128 ^ k * z = R at *
     have HZA := hid (zag_own HU.out)
     clear hzm
     have e2 : k ≤ 0 ∨ (1 ≤ k ∧ ((z : Int) == 0) = false) := by
      rcases Nat.eq_zero_or_pos k with h0 | h0
      ·exact .inl (by omega)
      ·exact .inr ⟨by omega, beq_eq_false_iff_ne.2 (by omega)⟩
     have e1 : (((k : Int) == 9) = true ∧ 1 ≤ k ∧ z ≤ 1) ∨ ((k : Int) == 9) = false := by
      by_cases h9 : k = 9
      ·exact .inl ⟨beq_iff_eq.2 (by omega), by omega, by omega⟩
      ·exact .inr (beq_eq_false_iff_ne.2 (by omega))
     clear hbad
     rcases e1 with ⟨e1, e1b, e1c⟩ | e1 <;> rcases e2 with e2 | ⟨e2b, e2⟩ <;> rcases Nat.lt_or_ge (k + 1) cap with hck | hck
     all_goals (try (exfalso; omega))
     all_goals
      first
      |have hck2 : ¬ cap = k + 1 := by omega
       clear hck
       go_wp2
       go_quiet (fail)
       go_wp2
       go_ret3
       exact got_some HG.out (congrArg (Value.int .i64) HZA.out) (by rw [List.length_drop]) ((H.out.later (k + 1) (by omega)).drewN _) (below_dn (Below.refl _ _) _)
      |obtain rfl : cap = k + 1 := by omega
       clear hck
       go_wp2
       go_quiet (fail)
       go_wp2
       go_ret3
       exact got_some HG.out (congrArg (Value.int .i64) HZA.out) (by first | (rw [List.length_drop]; done) | (rw [List.length_drop]; omega)) (Sl.drewN (by simpa [Nat.sub_eq_zero_of_le hcap] using H.out.last (k + 1) (Nat.le_refl _) (some ⟨b, o, none⟩) (fun h => by cases h)) _) (below_dn (Below.refl _ _) _)
    ·have HG := hid (C.front_on HF.out h HZK.out (by omega) (by omega) (by omega))
     have hzm : z % 128 = z - 128 := by omega
     rw [hzm] at hor
     rw [Int.toNat_natCast] at HG
     generalize r + 128 ^ k * (z - 128) = R at *
     have hk8 : k ≤ 8 := by omega
     have e1 : ((k : Int) == 9) = false := beq_eq_false_iff_ne.2 (by omega)
     have e2 : ((z : Int) == 0) = false := beq_eq_false_iff_ne.2 (by omega)
     clear hbad hzm
     rcases Nat.eq_zero_or_pos k with h0 | h0
     ·have hk0 : k ≤ 0 := by omega
      clear h0
      go_wp2
      go_round
      case rel => exact ⟨k + 1, R, by omega, by go_num, by first | rfl | rw [hor], by omega, HG⟩
      case measure => simp [intOf]; omega
     ·go_wp2
      go_round
      case rel => exact ⟨k + 1, R, by omega, by go_num, by first | rfl | rw [hor], by omega, HG⟩
      case measure => simp [intOf]; omega
  ·have HN := hid (gi_none (C.front_end HF.out (by omega)))
   go_wp2
   go_ret3
   exact got_none HN.out (Below.refl _ _)
end Go.Proofs.YtablocpcgknmaaaGreatDoor.Cd
/- The walks of GetInt, of the program and of the reference. -/
namespace Go.Proofs.YtablocpcgknmaaaGreatDoor.Cd
open Go.Lib (hid)
set_option maxRecDepth 100000
open Go.RowKit
set_option linter.unusedVariables false

theorem got_no {z : Value} {r : Option (Value × List Int)} {w w' : World} {e : Ending} (h : Got z r w e w') (hr : r = none) : e = .returned (.tuple #[z, .slice none 0 0, .bool false]) ∧ Below w.heap.size w w' := by
 subst hr
 exact ⟨h.2, h.1⟩
theorem got_yes {z x : Value} {r : Option (Value × List Int)} {rest : List Int} {w w' : World} {e : Ending} (h : Got z r w e w') (hr : r = some (x, rest)) :
  ∃ A c, e = .returned (.tuple #[x, .slice A rest.length c, .bool true]) ∧ Sl w' A rest.length c rest ∧ Below w.heap.size w w' := by
 subst hr
 obtain ⟨hb, A, c, he, hs⟩ := h
 exact ⟨A, c, he, hs, hb⟩
theorem gi_rest {zs : List Int} {x : Value} {rest : List Int} (h : gi zs = some (x, rest)) : ∃ k, rest = zs.drop k ∧ ∃ u, x = .int .i64 (C.zag u) ∧ C.dec zs = some (u, k) := by
 unfold gi at h
 cases hd : C.dec zs with
 | none => rw [hd] at h; cases h
 | some p =>
  obtain ⟨u, k⟩ := p
  rw [hd] at h
  simp only [Option.some.injEq, Prod.mk.injEq] at h
  exact ⟨k, h.2.symm, u, h.1.symm, rfl⟩

set_option maxHeartbeats 400000 in
theorem getInt_any (a : Option Addr) (len cap : Nat) (zs : List Int) (hl : len ≤ 800000) (w : World) (h : Sl w a len cap zs) :
  Calls Tryz.prog 70 #[.slice a len cap] w (Got (.int .i64 0) (gi zs) w) := by
 have H := hid h
 have HL := hid (show zs.length ≤ 800000 by rw [h.sz]; exact hl)
 clear h
 cases hg : gi zs with
 | none =>
  have HG := hid hg
  clear hg
  go_enter Tryz.func70, Tryz.ntmps70
  go_wp2_with (first
   | (go_at_call 130; refine (cutInt_any _ _ _ zs (by omega) _ H.out).mono ?_; intro e w1 hgot; obtain ⟨rfl, hb1⟩ := got_no hgot HG.out; have HB := hid hb1; clear hb1 hgot)
   | (go_at_call 129; go_in))
  go_ret3
  simp only []
  go_wp2
  go_ret3
  exact got_none rfl HB.out
 | some p =>
  obtain ⟨x, rest⟩ := p
  have HG := hid hg
  have hrl : rest.length ≤ 800000 := by
   obtain ⟨k, hk, _⟩ := gi_rest hg
   rw [hk, List.length_drop]; have := HL.out; omega
  clear hg
  go_enter Tryz.func70, Tryz.ntmps70
  go_wp2_with (first
   | (go_at_call 130; refine (cutInt_any _ _ _ zs (by omega) _ H.out).mono ?_; intro e w1 hgot; obtain ⟨A1, c1, rfl, hs1, hb1⟩ := got_yes hgot HG.out; have HB := hid hb1; have HS := hid hs1; clear hb1 hgot hs1)
   | (go_at_call 181; refine (copied_any A1 _ c1 rest (by omega) _ HS.out).mono ?_; rintro e w2 ⟨A2, c2, rfl, ho2, hb2⟩; have HO2 := hid ho2; have HB2 := hid hb2; clear ho2 hb2)
   | (go_at_call 129; go_in))
  go_ret3
  simp only []
  go_wp2
  go_ret3
  exact got_some rfl rfl rfl (OwnPost.sl (w := w) HO2.out HS.out.bd) (HB.out.trans (HB2.out.mono HB.out.size))

end Go.Proofs.YtablocpcgknmaaaGreatDoor.Cd
/- The walks of GetBool, cutCount, cutText and GetText, of the program and of the reference. -/
namespace Go.Proofs.YtablocpcgknmaaaGreatDoor.Cd
open Go.Lib (hid)
set_option maxRecDepth 100000
open Go.RowKit
set_option linter.unusedVariables false

def gb : List Int → Option (Value × List Int)
 | [] => none
 | c :: t => if 1 < c then none else some (.bool (c == 1), t)
theorem gb_get {zs : List Int} {z : Int} (h : 0 < zs.length) (hz : zs.getD 0 0 = z) : gb zs = if 1 < z then none else some (.bool (z == 1), zs.drop 1) := by
 cases zs with
 | nil => simp at h
 | cons c t => simp only [List.getD_cons_zero] at hz; subst hz; rfl
theorem gb_rest {zs : List Int} {x : Value} {rest : List Int} (h : gb zs = some (x, rest)) : rest.length ≤ zs.length := by
 cases zs with
 | nil => cases h
 | cons c t =>
  have e : gb (c :: t) = if 1 < c then none else some (.bool (c == 1), t) := rfl
  rw [e] at h
  by_cases hc : 1 < c
  ·rw [if_pos hc] at h; cases h
  ·rw [if_neg hc] at h
   simp only [Option.some.injEq, Prod.mk.injEq] at h
   rw [← h.2]; simp

set_option maxHeartbeats 800000 in
theorem cutBool_any (a : Option Addr) (len cap : Nat) (zs : List Int) (hl : len ≤ 900000) (w : World) (h : Sl w a len cap zs) :
  Calls Tryz.prog 134 #[.slice a len cap] w (Got (.bool false) (gb zs) w) := by
 have H := hid h
 have hz := h.sz
 have hcap := h.le
 subst hz
 clear h
 rcases Nat.eq_zero_or_pos zs.length with h0 | h0
 ·have hz : zs = [] := List.eq_nil_of_length_eq_zero h0
  subst hz
  clear h0
  go_enter Tryz.func134, Tryz.ntmps134
  go_wp2
  go_ret3
  exact got_none rfl (Below.refl _ _)
 ·obtain ⟨b, o, rfl, z, hz, hzk, hbl, hc⟩ := H.out.byte h0
  rw [Nat.add_zero] at hc
  have e0 : ((zs.length : Int) == 0) = false := beq_eq_false_iff_ne.2 (by omega)
  have hg := gb_get h0 hzk
  rcases Nat.lt_or_ge 1 z with h1 | h1
  ·have HG := hid (show gb zs = none by rw [hg, if_pos (by omega)])
   clear hg hzk
   go_enter Tryz.func134, Tryz.ntmps134
   go_wp2
   go_ret3
   exact got_none HG.out (Below.refl _ _)
  ·have HG := hid (show gb zs = some (.bool ((z : Int) == 1), zs.drop 1) by rw [hg, if_neg (by omega)])
   clear hg hzk
   rcases Nat.lt_or_ge 1 cap with hck | hck
   ·have hck2 : ¬ cap = 1 := by omega
    clear hck
    go_enter Tryz.func134, Tryz.ntmps134
    go_wp2
    go_quiet (fail)
    go_wp2
    go_ret3
    exact got_some HG.out rfl (by first | (rw [List.length_drop]; done) | (rw [List.length_drop]; omega)) ((H.out.later 1 (by omega)).drewN _) (below_dn (Below.refl _ _) _)
   ·obtain rfl : cap = 1 := by omega
    clear hck
    go_enter Tryz.func134, Tryz.ntmps134
    go_wp2
    go_quiet (fail)
    go_wp2
    go_ret3
    exact got_some HG.out rfl (by first | (rw [List.length_drop]; done) | (rw [List.length_drop]; omega)) (Sl.drewN (by simpa [Nat.sub_eq_zero_of_le hcap] using H.out.last 1 (Nat.le_refl _) (some ⟨b, o, none⟩) (fun h => by cases h)) _) (below_dn (Below.refl _ _) _)

set_option maxHeartbeats 400000 in
theorem getBool_any (a : Option Addr) (len cap : Nat) (zs : List Int) (hl : len ≤ 800000) (w : World) (h : Sl w a len cap zs) :
  Calls Tryz.prog 74 #[.slice a len cap] w (Got (.bool false) (gb zs) w) := by
 have H := hid h
 have HL := hid (show zs.length ≤ 800000 by rw [h.sz]; exact hl)
 clear h
 cases hg : gb zs with
 | none =>
  have HG := hid hg
  clear hg
  go_enter Tryz.func74, Tryz.ntmps74
  go_wp2_with (first
   | (go_at_call 134; refine (cutBool_any _ _ _ zs (by omega) _ H.out).mono ?_; intro e w1 hgot; obtain ⟨rfl, hb1⟩ := got_no hgot HG.out; have HB := hid hb1; clear hb1 hgot)
   | (go_at_call 133; go_in))
  go_ret3
  simp only []
  go_wp2
  go_ret3
  exact got_none rfl HB.out
 | some p =>
  obtain ⟨x, rest⟩ := p
  have HG := hid hg
  have hrl : rest.length ≤ 800000 := by
   have := gb_rest hg; have := HL.out; omega
  clear hg
  go_enter Tryz.func74, Tryz.ntmps74
  go_wp2_with (first
   | (go_at_call 134; refine (cutBool_any _ _ _ zs (by omega) _ H.out).mono ?_; intro e w1 hgot; obtain ⟨A1, c1, rfl, hs1, hb1⟩ := got_yes hgot HG.out; have HB := hid hb1; have HS := hid hs1; clear hb1 hgot hs1)
   | (go_at_call 181; refine (copied_any A1 _ c1 rest (by omega) _ HS.out).mono ?_; rintro e w2 ⟨A2, c2, rfl, ho2, hb2⟩; have HO2 := hid ho2; have HB2 := hid hb2; clear ho2 hb2)
   | (go_at_call 133; go_in))
  go_ret3
  simp only []
  go_wp2
  go_ret3
  exact got_some rfl rfl rfl (OwnPost.sl (w := w) HO2.out HS.out.bd) (HB.out.trans (HB2.out.mono HB.out.size))

/-- A number of bytes or elements, and what follows. -/
def cnt (zs : List Int) : Option (Nat × List Int) := match C.dec zs with
 | none => none
 | some (u, k) => if 0 ≤ C.zag u ∧ C.zag u ≤ ((zs.drop k).length : Int) then some ((C.zag u).toNat, zs.drop k) else none
def gc (zs : List Int) : Option (Value × List Int) := (cnt zs).map fun p => (.int .i64 (p.1 : Int), p.2)
theorem cnt_rest {zs : List Int} {n : Nat} {rest : List Int} (h : cnt zs = some (n, rest)) : n ≤ rest.length ∧ rest.length ≤ zs.length ∧ ∃ u k, C.dec zs = some (u, k) ∧ C.zag u = (n : Int) ∧ rest = zs.drop k := by
 unfold cnt at h
 cases hd : C.dec zs with
 | none => rw [hd] at h; cases h
 | some p =>
  obtain ⟨u, k⟩ := p
  rw [hd] at h
  simp only at h
  by_cases hc : 0 ≤ C.zag u ∧ C.zag u ≤ ((zs.drop k).length : Int)
  ·rw [if_pos hc] at h
   simp only [Option.some.injEq, Prod.mk.injEq] at h
   obtain ⟨rfl, rfl⟩ := h
   exact ⟨by omega, by rw [List.length_drop]; omega, u, k, rfl, by omega, rfl⟩
  ·rw [if_neg hc] at h; cases h
theorem cnt_no {zs : List Int} (h : C.dec zs = none) : cnt zs = none := by unfold cnt; rw [h]
theorem cnt_out {zs : List Int} {u k : Nat} (h : C.dec zs = some (u, k)) (hc : C.zag u < 0 ∨ ((zs.drop k).length : Int) < C.zag u) : cnt zs = none := by unfold cnt; rw [h]; exact if_neg (by omega)
theorem cnt_in {zs : List Int} {u k : Nat} (h : C.dec zs = some (u, k)) (h0 : 0 ≤ C.zag u) (h1 : C.zag u ≤ ((zs.drop k).length : Int)) : cnt zs = some ((C.zag u).toNat, zs.drop k) := by unfold cnt; rw [h]; exact if_pos ⟨h0, h1⟩

set_option maxRecDepth 100000 in
set_option maxHeartbeats 800000 in
theorem cutCount_any (a : Option Addr) (len cap : Nat) (zs : List Int) (hl : len ≤ 900000) (w : World) (h : Sl w a len cap zs) :
  Calls Tryz.prog 188 #[.slice a len cap] w (Got (.int .i64 0) (gc zs) w) := by
 have H := hid h
 have hz := h.sz
 subst hz
 clear h
 cases hd : C.dec zs with
 | none =>
  have HG := hid (gi_none hd)
  have HN := hid (show gc zs = none by unfold gc; rw [cnt_no hd]; rfl)
  clear hd
  go_enter Tryz.func188, Tryz.ntmps188
  go_wp2_with (go_at_call 130; refine (cutInt_any _ _ _ zs hl _ H.out).mono ?_; intro e w1 hgot; obtain ⟨rfl, hb1⟩ := got_no hgot HG.out; have HB := hid hb1; clear hb1 hgot)
  go_ret3
  exact got_none HN.out HB.out
 | some p =>
  obtain ⟨u, k⟩ := p
  have HG := hid (gi_some hd)
  have hin := (C.in64_iff _).1 (C.zag_in (C.enc_dec H.out.bd hd).2.1)
  have hrl : (zs.drop k).length ≤ 900000 := by rw [List.length_drop]; omega
  have H1 := hid (fun h => show gc zs = none by unfold gc; rw [cnt_out hd h]; rfl)
  have H2 := hid (fun h0 h1 => show gc zs = some (.int .i64 (((C.zag u).toNat : Nat) : Int), zs.drop k) by unfold gc; rw [cnt_in hd h0 h1]; rfl)
  clear hd
  generalize C.zag u = n at *
  generalize zs.drop k = rest at *
  obtain ⟨hin0, hin1⟩ := hin
  rcases Int.lt_or_le n 0 with h0 | h0
  ·have HN := hid (H1.out (.inl h0))
   clear H1 H2
   go_enter Tryz.func188, Tryz.ntmps188
   go_wp2_with (go_at_call 130; refine (cutInt_any _ _ _ zs hl _ H.out).mono ?_; intro e w1 hgot; obtain ⟨A1, c1, rfl, hs1, hb1⟩ := got_yes hgot HG.out; have HB := hid hb1; have HS := hid hs1; clear hb1 hgot hs1)
   go_ret3
   exact got_none HN.out HB.out
  ·rcases Int.lt_or_le (rest.length : Int) n with h1 | h1
   ·have HN := hid (H1.out (.inr h1))
    clear H1 H2
    go_enter Tryz.func188, Tryz.ntmps188
    go_wp2_with (go_at_call 130; refine (cutInt_any _ _ _ zs hl _ H.out).mono ?_; intro e w1 hgot; obtain ⟨A1, c1, rfl, hs1, hb1⟩ := got_yes hgot HG.out; have HB := hid hb1; have HS := hid hs1; clear hb1 hgot hs1)
    go_ret3
    exact got_none HN.out HB.out
   ·have HY := hid (H2.out h0 h1)
    have HC := hid (show Value.int .i64 n = .int .i64 ((n.toNat : Nat) : Int) by rw [Int.toNat_of_nonneg h0])
    clear H1 H2
    go_enter Tryz.func188, Tryz.ntmps188
    go_wp2_with (go_at_call 130; refine (cutInt_any _ _ _ zs hl _ H.out).mono ?_; intro e w1 hgot; obtain ⟨A1, c1, rfl, hs1, hb1⟩ := got_yes hgot HG.out; have HB := hid hb1; have HS := hid hs1; clear hb1 hgot hs1)
    go_ret3
    exact got_some HY.out HC.out rfl HS.out HB.out

theorem Sl.map {w : World} {a : Option Addr} {len cap : Nat} {zs : List Int} (h : Sl w a len cap zs) (k : Nat) (hk : k ≤ len) (hc : ¬ cap = k) : Sl w (Option.map (fun x => x.add k) a) (len - k) (cap - k) (zs.drop k) := by
 obtain ⟨a', ha, hs⟩ := h.drop k hk
 rw [if_neg hc, Nat.mul_one] at ha
 rw [← ha] at hs
 exact hs
def gt (zs : List Int) : Option (Value × List Int) := (cnt zs).map fun p => (.string (strOfNums (p.2.take p.1)), p.2.drop p.1)
theorem gt_rest {zs : List Int} {x : Value} {rest : List Int} (h : gt zs = some (x, rest)) : rest.length ≤ zs.length := by
 unfold gt at h
 cases hc : cnt zs with
 | none => rw [hc] at h; cases h
 | some p =>
  obtain ⟨n, r⟩ := p
  rw [hc] at h
  simp only [Option.map_some, Option.some.injEq, Prod.mk.injEq] at h
  have := (cnt_rest hc).2.1
  rw [← h.2, List.length_drop]; omega
set_option maxHeartbeats 800000 in
theorem cutText_any (a : Option Addr) (len cap : Nat) (zs : List Int) (hl : len ≤ 900000) (w : World) (h : Sl w a len cap zs) :
  Calls Tryz.prog 132 #[.slice a len cap] w (Got (.string ⟨#[]⟩) (gt zs) w) := by
 have H := hid h
 clear h
 cases hc : cnt zs with
 | none =>
  have HG := hid (show gc zs = none by unfold gc; rw [hc]; rfl)
  have HN := hid (show gt zs = none by unfold gt; rw [hc]; rfl)
  clear hc
  go_enter Tryz.func132, Tryz.ntmps132
  go_wp2_with (go_at_call 188; refine (cutCount_any _ _ _ zs hl _ H.out).mono ?_; intro e w1 hgot; obtain ⟨rfl, hb1⟩ := got_no hgot HG.out; have HB := hid hb1; clear hb1 hgot)
  go_ret3
  exact got_none HN.out HB.out
 | some p =>
  obtain ⟨n, rest⟩ := p
  have HG := hid (show gc zs = some (.int .i64 (n : Int), rest) by unfold gc; rw [hc]; rfl)
  have HN := hid (show gt zs = some (.string (strOfNums (rest.take n)), rest.drop n) by unfold gt; rw [hc]; rfl)
  have hnr := (cnt_rest hc).1
  clear hc
  go_enter Tryz.func132, Tryz.ntmps132
  go_wp2_with (go_at_call 188; refine (cutCount_any _ _ _ zs hl _ H.out).mono ?_; intro e w1 hgot; obtain ⟨A1, c1, rfl, hs1, hb1⟩ := got_yes hgot HG.out; have HB := hid hb1; have HS := hid hs1; clear hb1 hgot hs1)
  have hcv := fun m => conv_sl ((HS.out.take n hnr).drewN m)
  have hcr := HS.out.le
  generalize strOfNums (rest.take n) = S at *
  by_cases hck : c1 = n
  ·subst hck
   go_quiet (fail)
   go_wp2
   go_ret3
   exact got_some HN.out rfl (by first | (rw [List.length_drop]; done) | (rw [List.length_drop]; omega)) (Sl.drewN (by simpa [Nat.sub_eq_zero_of_le hcr] using HS.out.last c1 (Nat.le_refl _) A1 HS.out.nl) _) (below_dn HB.out _)
  ·go_quiet (fail)
   go_wp2
   go_ret3
   exact got_some HN.out rfl (by rw [List.length_drop]) ((HS.out.map n hnr hck).drewN _) (below_dn HB.out _)

set_option maxHeartbeats 400000 in
theorem getText_any (a : Option Addr) (len cap : Nat) (zs : List Int) (hl : len ≤ 800000) (w : World) (h : Sl w a len cap zs) :
  Calls Tryz.prog 72 #[.slice a len cap] w (Got (.string ⟨#[]⟩) (gt zs) w) := by
 have H := hid h
 have HL := hid (show zs.length ≤ 800000 by rw [h.sz]; exact hl)
 clear h
 cases hg : gt zs with
 | none =>
  have HG := hid hg
  clear hg
  go_enter Tryz.func72, Tryz.ntmps72
  go_wp2_with (first
   | (go_at_call 132; refine (cutText_any _ _ _ zs (by omega) _ H.out).mono ?_; intro e w1 hgot; obtain ⟨rfl, hb1⟩ := got_no hgot HG.out; have HB := hid hb1; clear hb1 hgot)
   | (go_at_call 131; go_in))
  go_ret3
  simp only []
  go_wp2
  go_ret3
  exact got_none rfl HB.out
 | some p =>
  obtain ⟨x, rest⟩ := p
  have HG := hid hg
  have hrl : rest.length ≤ 800000 := by
   have := gt_rest hg; have := HL.out; omega
  clear hg
  go_enter Tryz.func72, Tryz.ntmps72
  go_wp2_with (first
   | (go_at_call 132; refine (cutText_any _ _ _ zs (by omega) _ H.out).mono ?_; intro e w1 hgot; obtain ⟨A1, c1, rfl, hs1, hb1⟩ := got_yes hgot HG.out; have HB := hid hb1; have HS := hid hs1; clear hb1 hgot hs1)
   | (go_at_call 181; refine (copied_any A1 _ c1 rest (by omega) _ HS.out).mono ?_; rintro e w2 ⟨A2, c2, rfl, ho2, hb2⟩; have HO2 := hid ho2; have HB2 := hid hb2; clear ho2 hb2)
   | (go_at_call 131; go_in))
  go_ret3
  simp only []
  go_wp2
  go_ret3
  exact got_some rfl rfl rfl (OwnPost.sl (w := w) HO2.out HS.out.bd) (HB.out.trans (HB2.out.mono HB.out.size))

end Go.Proofs.YtablocpcgknmaaaGreatDoor.Cd
/- The walks of addList over integers and PutInts. Bounds: at most 500000 bytes and 5000 elements. -/
namespace Go.Proofs.YtablocpcgknmaaaGreatDoor.Cd
open Go.Lib (hid)
set_option maxRecDepth 100000
open Go.RowKit
set_option linter.unusedVariables false

/-- The slice of integers at `a` has `len` elements, which are `ns`; a nil one has no room. -/
structure Is (w : World) (a : Option Addr) (len cap : Nat) (ns : List Int) : Prop where
 sz : ns.length = len
 bd : ∀ z ∈ ns, C.in64 z
 le : len ≤ cap
 nl : a = none → cap = 0
 cell : 0 < len → ∃ b off, a = some ⟨b, off, none⟩ ∧ b < w.heap.size ∧ ∀ i, i < len → w.cell? ⟨b, off + i, none⟩ = some (.int .i64 (ns.getD i 0))
theorem Is.below {w w' : World} {a : Option Addr} {len cap : Nat} {zs : List Int} (h : Is w a len cap zs) (hb : Below w.heap.size w w') : Is w' a len cap zs :=
 ⟨h.sz, h.bd, h.le, h.nl, fun h0 => by
  obtain ⟨b, off, e, hl, hc⟩ := h.cell h0
  exact ⟨b, off, e, Nat.lt_of_lt_of_le hl hb.size, fun i hi => (hb.cell (p := ⟨b, off + i, none⟩) hl).trans (hc i hi)⟩⟩
theorem Is.int {w : World} {a : Option Addr} {len cap : Nat} {zs : List Int} (h : Is w a len cap zs) {k : Nat} (hk : k < len) :
  ∃ b off, a = some ⟨b, off, none⟩ ∧ ∃ z : Int, zs.getD k 0 = z ∧ C.in64 z ∧ b < w.heap.size ∧ w.cell? ⟨b, off + k, none⟩ = some (.int .i64 z) := by
 obtain ⟨hl, hb, _, _, hc⟩ := h
 obtain ⟨b, off, ha, hlt, hc⟩ := hc (by omega)
 have hm : zs.getD k 0 ∈ zs := by
  rw [List.getD_eq_getElem?_getD, List.getElem?_eq_getElem (by omega)]; simp
 exact ⟨b, off, ha, _, rfl, hb _ hm, hlt, hc k hk⟩

theorem own_fin {B : Nat} {w w' : World} {A : Option Addr} {n c : Nat} {ys zs : List Int} (he : ys = zs) (ho : Own w' B (.slice A ys.length c) ys) (hb : Below B w w') (hn : n = ys.length) : OwnPost B w zs (.returned (.slice A n c)) w' := by
 subst he hn
 exact ⟨A, c, rfl, ho, hb⟩
/-- The bytes of integers, one behind the other. -/
def encs (ns : List Int) : List Int := (ns.map fun n => C.enc (C.zig n)).flatten
theorem encs_snoc (ns : List Int) (n : Int) : encs (ns ++ [n]) = encs ns ++ C.enc (C.zig n) := by simp [encs]
theorem encs_len (ns : List Int) (h : ∀ z ∈ ns, C.in64 z) : (encs ns).length ≤ 11 * ns.length ∧ ∀ z ∈ encs ns, 0 ≤ z ∧ z ≤ 255 := by
 induction ns with
 | nil => simp [encs]
 | cons n ns ih =>
  have ih := ih (fun z hz => h z (by simp [hz]))
  have hb := C.enc_bd (C.zig_lt (h n (by simp)))
  have e : encs (n :: ns) = C.enc (C.zig n) ++ encs ns := rfl
  rw [e]
  refine ⟨by rw [List.length_append, List.length_cons]; omega, fun z hz => ?_⟩
  rcases List.mem_append.1 hz with hz | hz
  ·exact hb.1 z hz
  ·exact ih.2 z hz
theorem take_snoc {zs : List Int} {k : Nat} {z : Int} (hk : k < zs.length) (hz : zs.getD k 0 = z) : zs.take (k + 1) = zs.take k ++ [z] := by
 rw [List.take_succ_eq_append_getElem hk, ← hz, List.getD_eq_getElem?_getD, List.getElem?_eq_getElem hk]; rfl
theorem in_len (n : Nat) (h : n ≤ 1000000) : C.in64 (n : Int) := by rw [C.in64_iff]; omega

set_option maxHeartbeats 800000 in
theorem addInts_any (B : Nat) (A : Option Addr) (c : Nat) (zs : List Int) (a : Option Addr) (len cap : Nat) (ns : List Int) (w : World) (hown : Own w B (.slice A zs.length c) zs) (hB : B ≤ w.heap.size) (hz : zs.length ≤ 500000) (hn : Is w a len cap ns) (hln : len ≤ 5000)
  (hlow : 0 < len → ∃ b off, a = some ⟨b, off, none⟩ ∧ b < B) :
  Calls Tryz.prog 187 #[.slice A zs.length c, .slice a len cap, .func (.func 182) #[] #[]] w (OwnPost B w (zs ++ C.enc (C.zig (len : Int)) ++ encs ns)) := by
 have HO := hid hown
 have HN := hid hn
 have HL := hid hlow
 have HLen := hid hn.sz
 have hlb := (C.enc_bd (C.zig_lt (in_len len (by omega)))).2.2
 clear hown hn hlow
 go_enter Tryz.func187, Tryz.ntmps187
 go_wp2_with (go_at_call 182; refine (addInt_any _ (in_len len (by omega)) B A c zs _ HO.out hB (by omega)).mono ?_; rintro e w1 ⟨A1, c1, rfl, ho1, hb1⟩; have HO1 := hid ho1; have HB1 := hid hb1; clear ho1 hb1)
 go_loopw [0, 8, 15] (fun v _ i wr => ∃ (A : Option Addr) (c k : Nat) (ys : List Int), k ≤ len ∧ v = .slice A ys.length c ∧ i = .int .i64 k ∧ ys.length ≤ zs.length + 11 + 11 * k ∧ Hid (ys = zs ++ C.enc (C.zig (len : Int)) ++ encs (ns.take k)) ∧ Hid (Own wr B (.slice A ys.length c) ys) ∧ Hid (Below B w wr)) (fun _ _ i _ => len - (intOf i).toNat)
 case atStart => exact ⟨A1, c1, 0, zs ++ C.enc (C.zig (len : Int)), Nat.zero_le _, by first | rfl | rw [List.length_append], rfl, by rw [List.length_append]; omega, hid (by simp [encs]), HO1, HB1⟩
 case round =>
  obtain ⟨A2, c2, k, ys, hk, rfl, rfl, hyl, HY, HO2, HB2⟩ := hrel
  by_cases hlt : k < len
  ·obtain ⟨b, o, rfl, z, hzk, hz64, hbl, hcell0⟩ := HN.out.int hlt
   have hbB : b < B := by
    obtain ⟨b', o', e, hl⟩ := HL.out (by omega)
    injection e with e
    injection e with e1
    subst e1
    exact hl
   have hcell := (HB2.out.cell (p := ⟨b, o + k, none⟩) hbB).trans hcell0
   have HZ := hid hz64
   have HE := hid (C.enc_bd (C.zig_lt hz64))
   have HS := hid (show ys ++ C.enc (C.zig z) = zs ++ C.enc (C.zig (len : Int)) ++ encs (ns.take (k + 1)) by rw [take_snoc (by rw [HLen.out]; exact hlt) hzk, encs_snoc, HY.out]; simp only [List.append_assoc])
   have hBw := HB2.out.size
   clear hcell0 hzk hz64
   go_wp2_with (go_at_call 182; refine (addInt_any _ HZ.out B A2 c2 ys _ HO2.out (by omega) (by omega)).mono ?_; rintro e w3 ⟨A3, c3, rfl, ho3, hb3⟩; have HO3 := hid ho3; have HB3 := hid (HB2.out.trans hb3); clear ho3 hb3)
   go_roundw
   case rel => exact ⟨A3, c3, k + 1, ys ++ C.enc (C.zig z), by omega, by first | rfl | rw [List.length_append], by go_num, by rw [List.length_append]; have := HE.out.2.2; omega, HS, HO3, HB3⟩
   case measure => simp [intOf]; omega
  ·have hF : ys = zs ++ C.enc (C.zig (len : Int)) ++ encs ns := by rw [HY.out, List.take_of_length_le (by rw [HLen.out]; omega)]
   have HF := hid hF
   clear hF
   go_wp2
   go_ret
   exact own_fin HF.out HO2.out HB2.out rfl

set_option maxHeartbeats 800000 in
theorem putInts_any (a : Option Addr) (len cap : Nat) (zs : List Int) (a2 : Option Addr) (len2 cap2 : Nat) (ns : List Int) (hl : len ≤ 400000) (hl2 : len2 ≤ 5000) (w : World) (h : Sl w a len cap zs) (hn : Is w a2 len2 cap2 ns) :
  Calls Tryz.prog 128 #[.slice a len cap, .slice a2 len2 cap2] w (OwnPost w.heap.size w (zs ++ C.enc (C.zig (len2 : Int)) ++ encs ns)) := by
 have H := hid h
 have HN := hid hn
 have hz := h.sz
 have HLow := hid (show 0 < len2 → ∃ b off, a2 = some ⟨b, off, none⟩ ∧ b < w.heap.size from fun h0 => by obtain ⟨b, o, e, hl, _⟩ := hn.cell h0; exact ⟨b, o, e, hl⟩)
 subst hz
 clear h hn
 go_enter Tryz.func128, Tryz.ntmps128
 go_wp2_with (first
  | (go_at_call 181; refine (copied_any a _ cap zs (by omega) _ H.out).mono ?_; rintro e w1 ⟨A1, c1, rfl, ho1, hb1⟩; have HO := hid ho1; have HB := hid hb1; clear ho1 hb1)
  | (go_at_call 187; refine (addInts_any w.heap.size A1 c1 zs a2 len2 cap2 ns _ HO.out HB.out.size (by omega) (HN.out.below HB.out) hl2 HLow.out).mono ?_; rintro e w2 ⟨A2, c2, rfl, ho2, hb2⟩; have HO2 := hid ho2; have HB2 := hid (HB.out.trans hb2); clear ho2 hb2))
 go_ret
 exact own_fin rfl HO2.out HB2.out (by simp only [List.length_append]; omega)
end Go.Proofs.YtablocpcgknmaaaGreatDoor.Cd
/- Lists in the codec: what is read, one element after the other, and rows that the call made. No condition. -/
namespace Go.Proofs.YtablocpcgknmaaaGreatDoor.Cd
open Go.Lib (hid)
set_option maxRecDepth 100000
open Go.RowKit
set_option linter.unusedVariables false

/-- n elements, one behind the other. -/
def lst {α : Type} (one : List Int → Option (α × List Int)) : Nat → List Int → Option (List α × List Int)
 | 0, zs => some ([], zs)
 | n + 1, zs => (one zs).bind fun p => (lst one n p.2).map fun q => (p.1 :: q.1, q.2)
/-- k of n elements are read: xs; r is left. -/
structure Prg {α : Type} (one : List Int → Option (α × List Int)) (n : Nat) (zs : List Int) (k : Nat) (xs : List α) (r : List Int) : Prop where
 le : k ≤ n
 sz : xs.length = k
 rl : r.length ≤ zs.length
 eq : lst one n zs = (lst one (n - k) r).map fun q => (xs ++ q.1, q.2)
section
variable {α : Type} {one : List Int → Option (α × List Int)} {n k : Nat} {zs r r' : List Int} {xs : List α} {x : α}
theorem prg_zero : Prg one n zs 0 [] zs := ⟨Nat.zero_le _, rfl, Nat.le_refl _, by
 rw [Nat.sub_zero]
 cases h : lst one n zs <;> simp⟩
theorem prg_none (h : Prg one n zs k xs r) (hk : k < n) (hr : one r = none) : lst one n zs = none := by
 rw [h.eq, show n - k = (n - k - 1) + 1 by omega]; simp [lst, hr]
theorem prg_some (h : Prg one n zs k xs r) (hk : k < n) (hr : one r = some (x, r')) (hl : r'.length ≤ r.length) : Prg one n zs (k + 1) (xs ++ [x]) r' :=
 ⟨hk, by simp [h.sz], Nat.le_trans hl h.rl, by
  rw [h.eq, show n - k = (n - (k + 1)) + 1 by omega]
  simp only [lst, hr, Option.bind_some, Option.map_map]
  cases h : lst one (n - (k + 1)) r' <;> simp⟩
theorem prg_end (h : Prg one n zs n xs r) : lst one n zs = some (xs, r) := by rw [h.eq, Nat.sub_self]; simp [lst]
end

/-- What a function that reads a list leaves. -/
def GotL {α : Type} (I : World → Option Addr → Nat → Nat → List α → Prop) (r : Option (List α × List Int)) (w : World) (e : Ending) (w' : World) : Prop :=
 Below w.heap.size w w' ∧ match r with
 | none => e = .returned (.tuple #[.slice none 0 0, .slice none 0 0, .bool false])
 | some (xs, rest) => ∃ A c A2 c2, e = .returned (.tuple #[.slice A xs.length c, .slice A2 rest.length c2, .bool true]) ∧ I w' A xs.length c xs ∧ Sl w' A2 rest.length c2 rest
section
variable {α : Type} {I : World → Option Addr → Nat → Nat → List α → Prop} {r : Option (List α × List Int)} {w w' : World} {e : Ending} {xs : List α} {rest : List Int}
theorem gotl_no (h : GotL I r w e w') (hr : r = none) : e = .returned (.tuple #[.slice none 0 0, .slice none 0 0, .bool false]) ∧ Below w.heap.size w w' := by
 subst hr
 exact ⟨h.2, h.1⟩
theorem gotl_yes (h : GotL I r w e w') (hr : r = some (xs, rest)) :
  ∃ A c A2 c2, e = .returned (.tuple #[.slice A xs.length c, .slice A2 rest.length c2, .bool true]) ∧ I w' A xs.length c xs ∧ Sl w' A2 rest.length c2 rest ∧ Below w.heap.size w w' := by
 subst hr
 obtain ⟨hb, A, c, A2, c2, he, hi, hs⟩ := h
 exact ⟨A, c, A2, c2, he, hi, hs, hb⟩
theorem gotl_none (h : r = none) (hb : Below w.heap.size w w') : GotL I r w (.returned (.tuple #[.slice none 0 0, .slice none 0 0, .bool false])) w' := by
 subst h
 exact ⟨hb, rfl⟩
theorem gotl_some {A A2 : Option Addr} {n c n2 c2 : Nat} (h : r = some (xs, rest)) (hn : n = xs.length) (hn2 : n2 = rest.length) (hi : I w' A n c xs) (hs : Sl w' A2 n2 c2 rest) (hb : Below w.heap.size w w') :
  GotL I r w (.returned (.tuple #[.slice A n c, .slice A2 n2 c2, .bool true])) w' := by
 subst h hn hn2
 exact ⟨hb, A, c, A2, c2, rfl, hi, hs⟩
end

theorem row_keep {w w' : World} {B n : Nat} {e : TypeId} {v : Value} {vs : List Value} (h : w.ownsRow B e 1 v n vs) (hb : Below w.heap.size w w') : w'.ownsRow B e 1 v n vs := by
 rcases h.2 with ⟨rfl, h0⟩ | ⟨g, cap, cur, rfl, hbg, hg, hnc, hcm, hcs, htk⟩
 ·exact ⟨h.1, .inl ⟨rfl, h0⟩⟩
 ·exact ⟨h.1, .inr ⟨g, cap, cur, rfl, hbg, (hb.block g (lt_of_block hg)).trans hg, hnc, hcm, hcs, htk⟩⟩
/-- A slice of bytes does not lie in a row of other cells: a store there leaves it. -/
theorem sl_stored {w : World} {A : Option Addr} {len cap : Nat} {zs : List Int} (h : Sl w A len cap zs) {B n : Nat} {e : TypeId} {g : Nat} {vs : List Value} (ho : w.ownsRow B e 1 (.slice (some ⟨g, 0, none⟩) n n) n vs)
  (hne : ∀ v ∈ vs, ∀ z, v ≠ Value.int .u8 z) (j : Nat) (u : Value) : Sl (w.setCell ⟨g, j, none⟩ u) A len cap zs := by
 refine ⟨h.sz, h.bd, h.le, h.nl, fun h0 => ?_⟩
 obtain ⟨b, off, ea, hl, hc⟩ := h.cell h0
 have hbg : b ≠ g := by
  rintro rfl
  have h1 := hc 0 h0
  rcases ho.2 with ⟨h', _⟩ | ⟨g', cap', cur, h', _, hg, _, _, hcs, htake⟩
  ·simp at h'
  ·simp only [Value.slice.injEq, Option.some.injEq, Addr.mk.injEq, and_true, true_and] at h'
   obtain ⟨rfl, rfl⟩ := h'
   rw [cell_of_row w b (off + 0) cur e (0, 0) hg] at h1
   have hall : cur.toList = vs := by rw [← htake, List.take_of_length_le (by rw [Array.length_toList, hcs]; exact Nat.le_refl _)]
   have hm : Value.int .u8 (zs.getD 0 0) ∈ vs := by
    rw [← hall]
    exact Array.mem_toList_iff.2 (Array.mem_of_getElem? h1)
   exact hne _ hm _ rfl
 refine ⟨b, off, ea, by simpa [World.setCell] using hl, fun i hi => ?_⟩
 rw [World.cell?_of_block (w := w) (Below.heap_setCell w ⟨g, j, none⟩ u b hbg)]
 exact hc i hi
theorem row_set {α : Type} (emb : α → Value) (d : α) {xs : List α} {n k : Nat} (z : α) (hk : k < n) (hs : xs.length = k) : ((xs ++ List.replicate (n - k) d).map emb).set k (emb z) = ((xs ++ [z]) ++ List.replicate (n - (k + 1)) d).map emb := by
 subst hs
 rw [show n - xs.length = (n - (xs.length + 1)) + 1 by omega, List.replicate_succ, List.map_append, List.set_append_right _ _ (by simp)]
 simp
theorem row_cell {α : Type} (emb : α → Value) (d : α) {xs : List α} {n k : Nat} {w : World} {B g : Nat} {e : TypeId} (h : w.ownsRow B e 1 (.slice (some ⟨g, 0, none⟩) n n) n ((xs ++ List.replicate (n - k) d).map emb)) (hk : k < n) (hs : xs.length = k) : w.cell? ⟨g, k, none⟩ = some (emb d) := by
 rw [h.cellAt k (by omega), List.getElem?_map, List.getElem?_append_right (by omega), hs, Nat.sub_self, List.getElem?_replicate_of_lt (by omega)]
 rfl
theorem row_step {α : Type} (emb : α → Value) (d : α) {xs : List α} {n k : Nat} {w : World} {B g : Nat} {e : TypeId} (h : w.ownsRow B e 1 (.slice (some ⟨g, 0, none⟩) n n) n ((xs ++ List.replicate (n - k) d).map emb)) (z : α) (hk : k < n) (hs : xs.length = k) :
  (w.setCell ⟨g, k, none⟩ (emb z)).ownsRow B e 1 (.slice (some ⟨g, 0, none⟩) n n) n (((xs ++ [z]) ++ List.replicate (n - (k + 1)) d).map emb) := by
 have := (h.stored k (emb z)).1
 rwa [row_set emb d z hk hs] at this
theorem map_ne {α : Type} {emb : α → Value} (he : ∀ x z, emb x ≠ Value.int .u8 z) (l : List α) : ∀ v ∈ l.map emb, ∀ z, v ≠ Value.int .u8 z := by
 intro v hv z
 obtain ⟨x, _, rfl⟩ := List.mem_map.1 hv
 exact he x z
end Go.Proofs.YtablocpcgknmaaaGreatDoor.Cd
/- The walks of cutList over integers, its closure, result and GetInts. Bounds: at most 900000 bytes. -/
namespace Go.Proofs.YtablocpcgknmaaaGreatDoor.Cd
open Go.Lib (hid)
set_option maxRecDepth 100000
open Go.RowKit
set_option linter.unusedVariables false

theorem info3 : (Tryz.prog.info? 3).map (fun i => (i.zero, i.size, i.bytes)) = some (some (.int .i64 0), 1, 8) := by kernel_rfl
def di (zs : List Int) : Option (Int × List Int) := (C.dec zs).map fun p => (C.zag p.1, zs.drop p.2)
def gis (zs : List Int) : Option (List Int × List Int) := (cnt zs).bind fun p => lst di p.1 p.2
theorem gi_di (zs : List Int) : gi zs = (di zs).map fun p => (Value.int .i64 p.1, p.2) := by
 unfold gi di
 cases C.dec zs <;> rfl
theorem di_len {zs : List Int} {x : Int} {r : List Int} (h : di zs = some (x, r)) : r.length ≤ zs.length := by
 unfold di at h
 cases hd : C.dec zs with
 | none => rw [hd] at h; cases h
 | some p =>
  rw [hd] at h
  simp only [Option.map_some, Option.some.injEq, Prod.mk.injEq] at h
  rw [← h.2, List.length_drop]; omega
theorem di_ok {zs : List Int} (hb : ∀ z ∈ zs, 0 ≤ z ∧ z ≤ 255) {x : Int} {r : List Int} (h : di zs = some (x, r)) : C.in64 x := by
 unfold di at h
 cases hd : C.dec zs with
 | none => rw [hd] at h; cases h
 | some p =>
  obtain ⟨u, k⟩ := p
  rw [hd] at h
  simp only [Option.map_some, Option.some.injEq, Prod.mk.injEq] at h
  rw [← h.1]
  exact C.zag_in (C.enc_dec hb hd).2.1
theorem lst_rest {α : Type} {one : List Int → Option (α × List Int)} (h1 : ∀ zs x r, one zs = some (x, r) → r.length ≤ zs.length) : ∀ (n : Nat) (zs : List Int) (xs : List α) (r : List Int), lst one n zs = some (xs, r) → r.length ≤ zs.length ∧ xs.length = n := by
 intro n
 induction n with
 | zero =>
  intro zs xs r h
  simp only [lst, Option.some.injEq, Prod.mk.injEq] at h
  obtain ⟨rfl, rfl⟩ := h
  exact ⟨Nat.le_refl _, rfl⟩
 | succ n ih =>
  intro zs xs r h
  cases hd : one zs with
  | none => simp [lst, hd] at h
  | some p =>
   obtain ⟨x, r1⟩ := p
   cases hl : lst one n r1 with
   | none => simp [lst, hd, hl] at h
   | some q =>
    obtain ⟨ys, r2⟩ := q
    simp only [lst, hd, hl, Option.bind_some, Option.map_some, Option.some.injEq, Prod.mk.injEq] at h
    obtain ⟨rfl, rfl⟩ := h
    have i := ih r1 ys r2 hl
    exact ⟨Nat.le_trans i.1 (h1 _ _ _ hd), by simp [i.2]⟩
theorem gis_rest {zs : List Int} {xs rest : List Int} (h : gis zs = some (xs, rest)) : rest.length ≤ zs.length := by
 unfold gis at h
 cases hc : cnt zs with
 | none => rw [hc] at h; cases h
 | some p =>
  obtain ⟨n, r⟩ := p
  rw [hc] at h
  exact Nat.le_trans (lst_rest (fun _ _ _ h => di_len h) n r xs rest h).1 (cnt_rest hc).2.1
theorem all_snoc {α : Type} {P : α → Prop} {xs : List α} {x : α} (h : ∀ z ∈ xs, P z) (hx : P x) : ∀ z ∈ xs ++ [x], P z := by
 intro z hz
 rcases List.mem_append.1 hz with hz | hz
 ·exact h z hz
 ·rw [List.mem_singleton] at hz; rw [hz]; exact hx
theorem row_is {w : World} {B g n : Nat} {xs : List Int} (h : w.ownsRow B 3 1 (.slice (some ⟨g, 0, none⟩) n n) n (xs.map (Value.int .i64))) (hz : ∀ z ∈ xs, C.in64 z) (hl : xs.length = n) (hg : g < w.heap.size) : Is w (some ⟨g, 0, none⟩) n n xs := by
 refine ⟨hl, hz, Nat.le_refl _, (fun h => by cases h), fun h0 => ⟨g, 0, rfl, hg, fun i hi => ?_⟩⟩
 rw [Nat.zero_add, h.cellAt i (by omega), List.getElem?_map, List.getElem?_eq_getElem (by omega), List.getD_eq_getElem?_getD, List.getElem?_eq_getElem (by omega)]
 rfl

theorem wpList_makeI {ops : Array Oper} {rest : List Oper} {o : Oper} {a : Act} {Q : Exit → Act → World → Prop} {w : World} (hg : o.guard = none) {l : Operand} (hop : o.op = .makeSlice 23 l l)
  (n : Nat) (hl : a.eval l = .int .i64 (n : Int)) (hn : n ≤ 1000000)
  (hK : ∀ w', w'.ownsRow w.heap.size 3 1 (.slice (some ⟨w.heap.size, 0, none⟩) n n) n ((([] : List Int) ++ List.replicate (n - 0) 0).map (Value.int .i64)) → Below w.heap.size w w' → w.heap.size < w'.heap.size → wpList Tryz.prog ops Q rest (a.put o.dst (.slice (some ⟨w.heap.size, 0, none⟩) n n)) w') : wpList Tryz.prog ops Q (o :: rest) a w := by
 obtain ⟨i0, hi0, hz0, hz1, hz2⟩ := info_parts info3
 refine wpList_make_full w hg l l 23 hop w.heap.size 3 i0 ((Value.int .i64) 0) 1 Tryz.underlying23 hi0 hz0 hz1 .i64 .i64 (n : Int) (n : Int) n hl hl rfl rfl (by rw [hz2]; omega) (by unfold maxLen; omega) (Nat.le_refl _) ?_
 intro w' hr hg'
 have e1 : (madeCells ((Value.int .i64) 0).cells (n * 1)).toList = ((([] : List Int) ++ List.replicate (n - 0) 0).map (Value.int .i64)) := by
  rw [show ((Value.int .i64) 0).cells = #[(Value.int .i64) 0] from rfl, toList_madeCells_one, Nat.mul_one, List.nil_append, List.map_replicate, Nat.sub_zero]
 rw [e1] at hr
 exact hK w' hr ((Below.refl _ _).grown hg' (Nat.le_refl _) (fun k h => by cases h)) (by have := (hr.lt w.heap.size rfl).2; exact this)

end Go.Proofs.YtablocpcgknmaaaGreatDoor.Cd
/- The walk of the reference's GetInt, with the block of what is left. -/
namespace Go.Proofs.YtablocpcgknmaaaGreatDoor.Cd
open Go.Lib (hid)
set_option maxRecDepth 100000
open Go.RowKit
set_option linter.unusedVariables false

/-- A slice with elements lies below block B. -/
def In (B len : Nat) (A : Option Addr) : Prop := 0 < len → ∀ a, A = some a → a.block < B
/-- As Got, and what is left lies below block B. -/
def GotIn (B : Nat) (z : Value) (r : Option (Value × List Int)) (w : World) (e : Ending) (w' : World) : Prop :=
 Below w.heap.size w w' ∧ match r with
 | none => e = .returned (.tuple #[z, .slice none 0 0, .bool false])
 | some (x, rest) => ∃ A c, e = .returned (.tuple #[x, .slice A rest.length c, .bool true]) ∧ Sl w' A rest.length c rest ∧ In B rest.length A
end Go.Proofs.YtablocpcgknmaaaGreatDoor.Cd
/- The walk of the reference's GetInts. Bounds: at most 800000 bytes. -/
namespace Go.Proofs.YtablocpcgknmaaaGreatDoor.Cd
open Go.Lib (hid)
set_option maxRecDepth 100000
open Go.RowKit
set_option linter.unusedVariables false



end Go.Proofs.YtablocpcgknmaaaGreatDoor.Cd
/- The walks of cutList over strings, its closure, result and GetTexts. Bounds: at most 900000 bytes. -/
namespace Go.Proofs.YtablocpcgknmaaaGreatDoor.Cd
open Go.Lib (hid)
set_option maxRecDepth 100000
open Go.RowKit
set_option linter.unusedVariables false

theorem info9 : (Tryz.prog.info? 9).map (fun i => (i.zero, i.size, i.bytes)) = some (some (.string ⟨#[]⟩), 1, 16) := by kernel_rfl
/-- A string of at most a million bytes. -/
def Small (s : ByteArray) : Prop := s.size ≤ 1000000
/-- The slice of strings at `a` has `len` elements, which are `ss`; a nil one has no room. -/
structure Ts (w : World) (a : Option Addr) (len cap : Nat) (ss : List ByteArray) : Prop where
 sz : ss.length = len
 bd : ∀ z ∈ ss, Small z
 le : len ≤ cap
 nl : a = none → cap = 0
 cell : 0 < len → ∃ b off, a = some ⟨b, off, none⟩ ∧ b < w.heap.size ∧ ∀ i, i < len → w.cell? ⟨b, off + i, none⟩ = some (.string (ss.getD i ⟨#[]⟩))
theorem Ts.below {w w' : World} {a : Option Addr} {len cap : Nat} {zs : List ByteArray} (h : Ts w a len cap zs) (hb : Below w.heap.size w w') : Ts w' a len cap zs :=
 ⟨h.sz, h.bd, h.le, h.nl, fun h0 => by
  obtain ⟨b, off, e, hl, hc⟩ := h.cell h0
  exact ⟨b, off, e, Nat.lt_of_lt_of_le hl hb.size, fun i hi => (hb.cell (p := ⟨b, off + i, none⟩) hl).trans (hc i hi)⟩⟩
theorem Ts.text {w : World} {a : Option Addr} {len cap : Nat} {zs : List ByteArray} (h : Ts w a len cap zs) {k : Nat} (hk : k < len) :
  ∃ b off, a = some ⟨b, off, none⟩ ∧ ∃ z : ByteArray, zs.getD k ⟨#[]⟩ = z ∧ Small z ∧ b < w.heap.size ∧ w.cell? ⟨b, off + k, none⟩ = some (.string z) := by
 obtain ⟨hl, hb, _, _, hc⟩ := h
 obtain ⟨b, off, ha, hlt, hc⟩ := hc (by omega)
 have hm : zs.getD k ⟨#[]⟩ ∈ zs := by
  rw [List.getD_eq_getElem?_getD, List.getElem?_eq_getElem (by omega)]; simp
 exact ⟨b, off, ha, _, rfl, hb _ hm, hlt, hc k hk⟩
def dt (zs : List Int) : Option (ByteArray × List Int) := (cnt zs).map fun p => (strOfNums (p.2.take p.1), p.2.drop p.1)
def gts (zs : List Int) : Option (List ByteArray × List Int) := (cnt zs).bind fun p => lst dt p.1 p.2
theorem gt_dt (zs : List Int) : gt zs = (dt zs).map fun p => (Value.string p.1, p.2) := by
 unfold gt dt
 cases cnt zs <;> rfl
theorem dt_len {zs : List Int} {x : ByteArray} {r : List Int} (h : dt zs = some (x, r)) : r.length ≤ zs.length := by
 have h2 : gt zs = some (.string x, r) := by rw [gt_dt, h]; rfl
 exact gt_rest h2
theorem str_size (zs : List Int) : (strOfNums zs).size = zs.length := by
 unfold strOfNums
 simp [ByteArray.size]
theorem dt_ok {zs : List Int} (hb : ∀ z ∈ zs, 0 ≤ z ∧ z ≤ 255) (hl : zs.length ≤ 1000000) {x : ByteArray} {r : List Int} (h : dt zs = some (x, r)) : Small x := by
 unfold dt at h
 cases hc : cnt zs with
 | none => rw [hc] at h; cases h
 | some p =>
  obtain ⟨n, rest⟩ := p
  rw [hc] at h
  simp only [Option.map_some, Option.some.injEq, Prod.mk.injEq] at h
  rw [← h.1]
  unfold Small
  have := cnt_rest hc
  rw [str_size, List.length_take]
  omega
theorem gts_rest {zs : List Int} {xs : List ByteArray} {rest : List Int} (h : gts zs = some (xs, rest)) : rest.length ≤ zs.length := by
 unfold gts at h
 cases hc : cnt zs with
 | none => rw [hc] at h; cases h
 | some p =>
  obtain ⟨n, r⟩ := p
  rw [hc] at h
  exact Nat.le_trans (lst_rest (fun _ _ _ h => dt_len h) n r xs rest h).1 (cnt_rest hc).2.1
theorem row_ts {w : World} {B g n : Nat} {xs : List ByteArray} (h : w.ownsRow B 9 1 (.slice (some ⟨g, 0, none⟩) n n) n (xs.map Value.string)) (hz : ∀ z ∈ xs, Small z) (hl : xs.length = n) (hg : g < w.heap.size) : Ts w (some ⟨g, 0, none⟩) n n xs := by
 refine ⟨hl, hz, Nat.le_refl _, (fun h => by cases h), fun h0 => ⟨g, 0, rfl, hg, fun i hi => ?_⟩⟩
 rw [Nat.zero_add, h.cellAt i (by omega), List.getElem?_map, List.getElem?_eq_getElem (by omega), List.getD_eq_getElem?_getD, List.getElem?_eq_getElem (by omega)]
 rfl

theorem wpList_makeT {ops : Array Oper} {rest : List Oper} {o : Oper} {a : Act} {Q : Exit → Act → World → Prop} {w : World} (hg : o.guard = none) {l : Operand} (hop : o.op = .makeSlice 24 l l)
  (n : Nat) (hl : a.eval l = .int .i64 (n : Int)) (hn : n ≤ 1000000)
  (hK : ∀ w', w'.ownsRow w.heap.size 9 1 (.slice (some ⟨w.heap.size, 0, none⟩) n n) n ((([] : List ByteArray) ++ List.replicate (n - 0) (⟨#[]⟩ : ByteArray)).map Value.string) → Below w.heap.size w w' → w.heap.size < w'.heap.size → wpList Tryz.prog ops Q rest (a.put o.dst (.slice (some ⟨w.heap.size, 0, none⟩) n n)) w') : wpList Tryz.prog ops Q (o :: rest) a w := by
 obtain ⟨i0, hi0, hz0, hz1, hz2⟩ := info_parts info9
 refine wpList_make_full w hg l l 24 hop w.heap.size 9 i0 (Value.string (⟨#[]⟩ : ByteArray)) 1 Tryz.underlying24 hi0 hz0 hz1 .i64 .i64 (n : Int) (n : Int) n hl hl rfl rfl (by rw [hz2]; omega) (by unfold maxLen; omega) (Nat.le_refl _) ?_
 intro w' hr hg'
 have e1 : (madeCells (Value.string (⟨#[]⟩ : ByteArray)).cells (n * 1)).toList = ((([] : List ByteArray) ++ List.replicate (n - 0) (⟨#[]⟩ : ByteArray)).map Value.string) := by
  rw [show (Value.string (⟨#[]⟩ : ByteArray)).cells = #[Value.string (⟨#[]⟩ : ByteArray)] from rfl, toList_madeCells_one, Nat.mul_one, List.nil_append, List.map_replicate, Nat.sub_zero]
 rw [e1] at hr
 exact hK w' hr ((Below.refl _ _).grown hg' (Nat.le_refl _) (fun k h => by cases h)) (by have := (hr.lt w.heap.size rfl).2; exact this)

end Go.Proofs.YtablocpcgknmaaaGreatDoor.Cd
/- The walk of the reference's GetText, with the block of what is left. Bounds: at most 800000 bytes. -/
namespace Go.Proofs.YtablocpcgknmaaaGreatDoor.Cd
open Go.Lib (hid)
set_option maxRecDepth 100000
open Go.RowKit
set_option linter.unusedVariables false

end Go.Proofs.YtablocpcgknmaaaGreatDoor.Cd
/- The walk of the reference's GetTexts. Bounds: at most 800000 bytes. -/
namespace Go.Proofs.YtablocpcgknmaaaGreatDoor.Cd
open Go.Lib (hid)
set_option maxRecDepth 100000
open Go.RowKit
set_option linter.unusedVariables false



end Go.Proofs.YtablocpcgknmaaaGreatDoor.Cd
/- The walks of addText, PutText, addList over strings and PutTexts. Bounds: at most some hundred thousand bytes. -/
namespace Go.Proofs.YtablocpcgknmaaaGreatDoor.Cd
open Go.Lib (hid)
set_option maxRecDepth 100000
open Go.RowKit
set_option linter.unusedVariables false

/-- The bytes of a string. -/
def byt (s : ByteArray) : List Int := s.data.toList.map fun b => (b.toNat : Int)
theorem byt_len (s : ByteArray) : (byt s).length = s.size := by
 unfold byt
 rw [List.length_map, Array.length_toList]; rfl
theorem byt_bd (s : ByteArray) : ∀ z ∈ byt s, 0 ≤ z ∧ z ≤ 255 := by
 intro z hz
 simp only [byt, List.mem_map] at hz
 obtain ⟨b, _, rfl⟩ := hz
 have := b.toNat_lt
 omega
theorem strCells_byt (s : ByteArray) : Lib.strCells s = (byt s).map (Value.int .u8) := by
 unfold Lib.strCells byt
 rw [List.map_map]; rfl
theorem byt_str {zs : List Int} (hb : ∀ z ∈ zs, 0 ≤ z ∧ z ≤ 255) : byt (strOfNums zs) = zs := by
 unfold byt strOfNums
 simp only [List.map_map]
 conv => rhs; rw [← List.map_id zs]
 refine List.map_congr_left fun z hz => ?_
 have := hb z hz
 simp only [Function.comp, id, UInt8.toNat_ofNat']
 omega

/-- One append of a string's bytes to a row of the call's own. -/
theorem app_str {w : World} {ops : Array Oper} {rest : List Oper} {o : Oper} {a : Act} {Q : Exit → Act → World → Prop} (hgd : o.guard = none) (sl x : Operand)
  (ho : o.op = .call { callee := .builtin .append, args := #[sl, x], argTypes := #[56, 9] }) {B : Nat}
  (v : Value) (xs : List Int) (hs : a.eval sl = v) (hown : Own w B v xs) (hB : B ≤ w.heap.size) (s : ByteArray) (hx : a.eval x = .string s) (hn : xs.length + s.size ≤ 1000000)
  (h : ∀ v' w', Own w' B v' (xs ++ byt s) → Below B w w' → wpList Tryz.prog ops Q rest (a.put o.dst v') w') : wpList Tryz.prog ops Q (o :: rest) a w := by
 obtain ⟨i0, hi0, hz0, hz1, hz2⟩ := info_parts info5
 refine Lib.wpList_append_own_string w hgd sl x 56 9 ho B 5 i0 Tryz.underlying56 Tryz.underlying9 hi0 hz0 hz1 hz2 v xs.length _ hs hown s hx (by unfold maxLen; omega) (by omega) hB ?_
 intro v' w' hown' hg _
 refine h v' w' ?_ ((Below.refl B w).grown hg hB (fun k hk => (hown.lt k hk).1))
 show w'.ownsRow B 5 1 v' (xs ++ byt s).length ((xs ++ byt s).map (Value.int .u8))
 rw [List.map_append, List.length_append, byt_len, ← strCells_byt]
 exact hown'

/-- The encoding of a string, and of strings one behind the other. -/
def ent (s : ByteArray) : List Int := C.enc (C.zig (s.size : Int)) ++ byt s
def ents (ss : List ByteArray) : List Int := (ss.map ent).flatten
theorem ents_snoc (ss : List ByteArray) (s : ByteArray) : ents (ss ++ [s]) = ents ss ++ ent s := by simp [ents]
theorem ents_cons (ss : List ByteArray) (s : ByteArray) : ents (s :: ss) = ent s ++ ents ss := rfl
theorem ent_bd {s : ByteArray} (h : Small s) : (∀ z ∈ ent s, 0 ≤ z ∧ z ≤ 255) ∧ (ent s).length = (C.enc (C.zig (s.size : Int))).length + s.size := by
 unfold Small at h
 have hb := C.enc_bd (C.zig_lt (in_len s.size h))
 refine ⟨fun z hz => ?_, by unfold ent; rw [List.length_append, byt_len]⟩
 rcases List.mem_append.1 hz with hz | hz
 ·exact hb.1 z hz
 ·exact byt_bd s z hz
theorem ents_bd {ss : List ByteArray} (h : ∀ s ∈ ss, Small s) : ∀ z ∈ ents ss, 0 ≤ z ∧ z ≤ 255 := by
 induction ss with
 | nil => simp [ents]
 | cons s ss ih =>
  intro z hz
  rw [ents_cons] at hz
  rcases List.mem_append.1 hz with hz | hz
  ·exact (ent_bd (h s (by simp))).1 z hz
  ·exact ih (fun t ht => h t (by simp [ht])) z hz
theorem ents_take {ss : List ByteArray} (k : Nat) : (ents (ss.take k)).length ≤ (ents ss).length := by
 have e : ents ss = ents (ss.take k) ++ ents (ss.drop k) := by
  unfold ents
  rw [← List.flatten_append, ← List.map_append, List.take_append_drop]
 rw [e, List.length_append]
 omega
theorem take_snocT {zs : List ByteArray} {k : Nat} {z : ByteArray} (hk : k < zs.length) (hz : zs.getD k ⟨#[]⟩ = z) : zs.take (k + 1) = zs.take k ++ [z] := by
 rw [List.take_succ_eq_append_getElem hk, ← hz, List.getD_eq_getElem?_getD, List.getElem?_eq_getElem hk]; rfl

set_option maxHeartbeats 400000 in
theorem addText_any (s : ByteArray) (hs : Small s) (B : Nat) (A : Option Addr) (c : Nat) (zs : List Int) (w : World) (hown : Own w B (.slice A zs.length c) zs) (hB : B ≤ w.heap.size) (hz : zs.length + s.size ≤ 900000) :
  Calls Tryz.prog 180 #[.slice A zs.length c, .string s] w (OwnPost B w (zs ++ ent s)) := by
 have HO := hid hown
 unfold Small at hs
 have hlb := (C.enc_bd (C.zig_lt (in_len s.size hs))).2.2
 have HE := hid (show (zs ++ C.enc (C.zig (s.size : Int))) ++ byt s = zs ++ ent s by unfold ent; rw [List.append_assoc])
 have hl2 : (zs ++ C.enc (C.zig (s.size : Int))).length + s.size ≤ 1000000 := by rw [List.length_append]; omega
 have HL2 := hid hl2
 clear hown hl2
 go_enter Tryz.func180, Tryz.ntmps180
 go_wp2_with (first
  | (go_at_call 182; refine (addInt_any _ (in_len s.size hs) B A c zs _ HO.out hB (by omega)).mono ?_; rintro e w1 ⟨A1, c1, rfl, ho1, hb1⟩; have HO1 := hid ho1; have HB1 := hid hb1; clear ho1 hb1)
  | (at_builtin; (refine app_str rfl (.tmp 8) (.tmp 9) ?_ (B := B) (.slice A1 (zs ++ C.enc (C.zig (s.size : Int))).length c1) (zs ++ C.enc (C.zig (s.size : Int))) ?_ HO1.out (Nat.le_trans hB HB1.out.size) s ?_ HL2.out ?_); (rfl); (simp [Act.eval]); (rfl); intro v3 w3 ho3 hb3; rw [HE.out] at ho3; have HP := hid (own_post ho3 (HB1.out.trans hb3)); clear ho3 hb3))
 go_ret
 exact HP.out

set_option maxHeartbeats 400000 in
theorem putText_any (a : Option Addr) (len cap : Nat) (zs : List Int) (s : ByteArray) (hs : Small s) (hl : len + s.size ≤ 800000) (w : World) (h : Sl w a len cap zs) :
  Calls Tryz.prog 114 #[.slice a len cap, .string s] w (OwnPost w.heap.size w (zs ++ ent s)) := by
 have H := hid h
 have hz := h.sz
 subst hz
 clear h
 go_enter Tryz.func114, Tryz.ntmps114
 go_wp2_with (first
  | (go_at_call 181; refine (copied_any a _ cap zs (by omega) _ H.out).mono ?_; rintro e w1 ⟨A1, c1, rfl, ho1, hb1⟩; have HO := hid ho1; have HB := hid hb1; clear ho1 hb1)
  | (go_at_call 180; refine (addText_any s hs w.heap.size A1 c1 zs _ HO.out HB.out.size (by omega)).mono ?_; rintro e w2 ⟨A2, c2, rfl, ho2, hb2⟩; have HO2 := hid ho2; have HB2 := hid (HB.out.trans hb2); clear ho2 hb2))
 go_ret
 exact own_fin rfl HO2.out HB2.out (by simp only [List.length_append])

set_option maxHeartbeats 800000 in
theorem addTexts_any (B : Nat) (A : Option Addr) (c : Nat) (zs : List Int) (a : Option Addr) (len cap : Nat) (ns : List ByteArray) (w : World) (hown : Own w B (.slice A zs.length c) zs) (hB : B ≤ w.heap.size) (hz : zs.length ≤ 400000) (hn : Ts w a len cap ns) (hln : len ≤ 5000) (hsum : (ents ns).length ≤ 400000)
  (hlow : 0 < len → ∃ b off, a = some ⟨b, off, none⟩ ∧ b < B) :
  Calls Tryz.prog 183 #[.slice A zs.length c, .slice a len cap, .func (.func 180) #[] #[]] w (OwnPost B w (zs ++ C.enc (C.zig (len : Int)) ++ ents ns)) := by
 have HO := hid hown
 have HN := hid hn
 have HL := hid hlow
 have HS0 := hid hsum
 have HLen := hid hn.sz
 have hlb := (C.enc_bd (C.zig_lt (in_len len (by omega)))).2.2
 clear hown hn hlow hsum
 go_enter Tryz.func183, Tryz.ntmps183
 go_wp2_with (go_at_call 182; refine (addInt_any _ (in_len len (by omega)) B A c zs _ HO.out hB (by omega)).mono ?_; rintro e w1 ⟨A1, c1, rfl, ho1, hb1⟩; have HO1 := hid ho1; have HB1 := hid hb1; clear ho1 hb1)
 go_loopw [0, 8, 15] (fun v _ i wr => ∃ (A : Option Addr) (c k : Nat) (ys : List Int), k ≤ len ∧ v = .slice A ys.length c ∧ i = .int .i64 k ∧ Hid (ys = zs ++ C.enc (C.zig (len : Int)) ++ ents (ns.take k)) ∧ Hid (Own wr B (.slice A ys.length c) ys) ∧ Hid (Below B w wr)) (fun _ _ i _ => len - (intOf i).toNat)
 case atStart => exact ⟨A1, c1, 0, zs ++ C.enc (C.zig (len : Int)), Nat.zero_le _, by first | rfl | rw [List.length_append], rfl, hid (by simp [ents]), HO1, HB1⟩
 case round =>
  obtain ⟨A2, c2, k, ys, hk, rfl, rfl, HY, HO2, HB2⟩ := hrel
  by_cases hlt : k < len
  ·obtain ⟨b, o, rfl, z, hzk, hsm, hbl, hcell0⟩ := HN.out.text hlt
   have hbB : b < B := by
    obtain ⟨b', o', e, hl⟩ := HL.out (by omega)
    injection e with e
    injection e with e1
    subst e1
    exact hl
   have hcell := (HB2.out.cell (p := ⟨b, o + k, none⟩) hbB).trans hcell0
   have HZ := hid hsm
   have hS : ys ++ ent z = zs ++ C.enc (C.zig (len : Int)) ++ ents (ns.take (k + 1)) := by rw [take_snocT (by rw [HLen.out]; exact hlt) hzk, ents_snoc, HY.out]; simp only [List.append_assoc]
   have hyb : ys.length + z.size ≤ 900000 := by
    have h1 := congrArg List.length hS
    have h2 := ents_take (ss := ns) (k + 1)
    have h3 := (ent_bd hsm).2
    have h4 := HS0.out
    simp only [List.length_append] at h1
    omega
   have HS := hid hS
   have hBw := HB2.out.size
   clear hcell0 hzk hsm hS
   go_wp2_with (go_at_call 180; refine (addText_any _ HZ.out B A2 c2 ys _ HO2.out (by omega) hyb).mono ?_; rintro e w3 ⟨A3, c3, rfl, ho3, hb3⟩; have HO3 := hid ho3; have HB3 := hid (HB2.out.trans hb3); clear ho3 hb3)
   go_roundw
   case rel => exact ⟨A3, c3, k + 1, ys ++ ent z, by omega, by first | rfl | rw [List.length_append], by go_num, HS, HO3, HB3⟩
   case measure => simp [intOf]; omega
  ·have hF : ys = zs ++ C.enc (C.zig (len : Int)) ++ ents ns := by rw [HY.out, List.take_of_length_le (by rw [HLen.out]; omega)]
   have HF := hid hF
   clear hF
   go_wp2
   go_ret
   exact own_fin HF.out HO2.out HB2.out rfl

set_option maxHeartbeats 800000 in
theorem putTexts_any (a : Option Addr) (len cap : Nat) (zs : List Int) (a2 : Option Addr) (len2 cap2 : Nat) (ns : List ByteArray) (hl : len ≤ 400000) (hl2 : len2 ≤ 5000) (hsum : (ents ns).length ≤ 400000) (w : World) (h : Sl w a len cap zs) (hn : Ts w a2 len2 cap2 ns) :
  Calls Tryz.prog 117 #[.slice a len cap, .slice a2 len2 cap2] w (OwnPost w.heap.size w (zs ++ C.enc (C.zig (len2 : Int)) ++ ents ns)) := by
 have H := hid h
 have HN := hid hn
 have hz := h.sz
 have HLow := hid (show 0 < len2 → ∃ b off, a2 = some ⟨b, off, none⟩ ∧ b < w.heap.size from fun h0 => by obtain ⟨b, o, e, hl, _⟩ := hn.cell h0; exact ⟨b, o, e, hl⟩)
 subst hz
 clear h hn
 go_enter Tryz.func117, Tryz.ntmps117
 go_wp2_with (first
  | (go_at_call 181; refine (copied_any a _ cap zs (by omega) _ H.out).mono ?_; rintro e w1 ⟨A1, c1, rfl, ho1, hb1⟩; have HO := hid ho1; have HB := hid hb1; clear ho1 hb1)
  | (go_at_call 183; refine (addTexts_any w.heap.size A1 c1 zs a2 len2 cap2 ns _ HO.out HB.out.size hl (HN.out.below HB.out) hl2 hsum HLow.out).mono ?_; rintro e w2 ⟨A2, c2, rfl, ho2, hb2⟩; have HO2 := hid ho2; have HB2 := hid (HB.out.trans hb2); clear ho2 hb2))
 go_ret
 exact own_fin rfl HO2.out HB2.out (by simp only [List.length_append]; omega)
end Go.Proofs.YtablocpcgknmaaaGreatDoor.Cd
/- The walks of the reference's PutText, PutInts and PutTexts. Bounds: at most some hundred thousand bytes. -/
namespace Go.Proofs.YtablocpcgknmaaaGreatDoor.Cd
open Go.Lib (hid)
set_option maxRecDepth 100000
open Go.RowKit
set_option linter.unusedVariables false

theorem conv_world (w : World) (s : ByteArray) : Below w.heap.size w (Lib.bytesWorld w 5 s) ∧ Sl (Lib.bytesWorld w 5 s) (some ⟨w.heap.size, 0, none⟩) s.size (grownCap w s.size 0 5) (byt s) := by
 refine ⟨⟨rfl, rfl, rfl, by rw [Lib.bytesWorld_size]; omega, fun k hk => Lib.bytesWorld_at_old w 5 s k hk⟩, byt_len s, byt_bd s, grownCap_ge w s.size 0 5, (fun h => by cases h), fun h0 => ⟨w.heap.size, 0, rfl, by rw [Lib.bytesWorld_size]; omega, fun i hi => ?_⟩⟩
 rw [Nat.zero_add, Lib.bytesWorld_cell w 5 s i hi]
 congr 2
 unfold byt
 have hl : i < s.data.toList.length := by rw [Array.length_toList]; exact hi
 rw [List.getD_eq_getElem?_getD, List.getD_eq_getElem?_getD, List.getElem?_map, List.getElem?_eq_getElem hl]
 rfl
theorem wpList_conv {ops : Array Oper} {rest : List Oper} {o : Oper} {a : Act} {Q : Exit → Act → World → Prop} {w : World} (hg : o.guard = none) {x : Operand} (hop : o.op = .convert 9 56 x)
  (s : ByteArray) (hx : a.eval x = .string s)
  (hK : ∀ A c w', Sl w' A s.size c (byt s) → Below w.heap.size w w' → wpList Tryz.prog ops Q rest (a.put o.dst (.slice A s.size c)) w') : wpList Tryz.prog ops Q (o :: rest) a w := by
 refine wpList_plain hg fun K hK' => ?_
 have hr := Lib.run_convert_string_bytes (P := Tryz.prog) w 9 56 5 s Tryz.underlying9 Tryz.underlying56 Tryz.underlying5
 have hc := conv_world w s
 unfold Oper.wp
 simp [execOp, hop, hx, hr, Result.andThen]
 exact hK' _ _ (hK _ _ _ hc.2 hc.1)
theorem own_some {B : Nat} {w w' : World} {zs : List Int} {e : Ending} (h : OwnPost B w zs e w') : ∃ v, e = .returned v ∧ Own w' B v zs ∧ Below B w w' := by
 obtain ⟨A, c, he, ho, hb⟩ := h
 exact ⟨_, he, ho, hb⟩
theorem bd_app {x y : List Int} (h : ∀ z ∈ x, 0 ≤ z ∧ z ≤ 255) (h2 : ∀ z ∈ y, 0 ≤ z ∧ z ≤ 255) : ∀ z ∈ x ++ y, 0 ≤ z ∧ z ≤ 255 := by
 intro z hz
 rcases List.mem_append.1 hz with hz | hz
 ·exact h z hz
 ·exact h2 z hz
theorem own_mono {w : World} {B B' : Nat} {v : Value} {zs : List Int} (h : Own w B v zs) (hb : B' ≤ B) : Own w B' v zs := by
 rcases h.2 with ⟨rfl, h0⟩ | ⟨g, cap, cur, rfl, hbg, r⟩
 ·exact ⟨h.1, .inl ⟨rfl, h0⟩⟩
 ·exact ⟨h.1, .inr ⟨g, cap, cur, rfl, Nat.le_trans hb hbg, r⟩⟩

set_option maxHeartbeats 800000 in
theorem rputText_any (a : Option Addr) (len cap : Nat) (zs : List Int) (s : ByteArray) (hs : Small s) (hl : len + s.size ≤ 800000) (w : World) (h : Sl w a len cap zs) :
  Calls Tryz.prog 80 #[.slice a len cap, .string s] w (OwnPost w.heap.size w (zs ++ ent s)) := by
 have H := hid h
 have hz := h.sz
 have hs2 := hs
 unfold Small at hs2
 have hlb := (C.enc_bd (C.zig_lt (in_len s.size hs2))).2.2
 have HE := hid (show (zs ++ C.enc (C.zig (s.size : Int))) ++ byt s = zs ++ ent s by unfold ent; rw [List.append_assoc])
 have HL2 := hid (show (zs ++ C.enc (C.zig (s.size : Int))).length + s.size ≤ 1000000 by rw [List.length_append, hz]; omega)
 have HI := hid (in_len s.size hs2)
 clear h hz
 go_enter Tryz.func80, Tryz.ntmps80
 go_wp2_with (first
  | (go_at_call 79; refine (rputInt_any _ _ _ zs _ HI.out (by omega) _ H.out).mono ?_; intro e w1 hp; obtain ⟨v1, rfl, ho1, hb1⟩ := own_some hp; have HO1 := hid ho1; have HB1 := hid hb1; clear ho1 hb1 hp)
  | ((with_reducible refine wpList_conv rfl rfl s ?_ ?_); (rfl); intro A2 c2 w2 hs2 hb2; have HS2 := hid hs2; have HB2 := hid (HB1.out.trans (hb2.mono HB1.out.size)); have HO2 := hid (own_below HO1.out hb2); clear hs2 hb2)
  | (at_builtin; (refine app_bytes rfl (.tmp 8) (.tmp 10) ?_ (B := w.heap.size) _ (zs ++ C.enc (C.zig (s.size : Int))) ?_ HO2.out HB2.out.size A2 s.size c2 (byt s) ?_ HS2.out HL2.out ?_); (rfl); (rfl); (rfl); intro v3 w3 ho3 hb3; rw [HE.out] at ho3; have HP := hid (own_post ho3 (HB2.out.trans hb3)); clear ho3 hb3))
 go_ret
 exact HP.out

set_option maxHeartbeats 1600000 in
theorem rputInts_any (a : Option Addr) (len cap : Nat) (zs : List Int) (a2 : Option Addr) (len2 cap2 : Nat) (ns : List Int) (hl : len ≤ 400000) (hl2 : len2 ≤ 5000) (w : World) (h : Sl w a len cap zs) (hn : Is w a2 len2 cap2 ns) :
  Calls Tryz.prog 82 #[.slice a len cap, .slice a2 len2 cap2] w (OwnPost w.heap.size w (zs ++ C.enc (C.zig (len2 : Int)) ++ encs ns)) := by
 have H := hid h
 have HN := hid hn
 have HLen := hid hn.sz
 have HZl := hid h.sz
 have hlb := (C.enc_bd (C.zig_lt (in_len len2 (by omega)))).2.2
 have HI := hid (in_len len2 (by omega))
 clear h hn
 go_enter Tryz.func82, Tryz.ntmps82
 go_wp2_with (go_at_call 79; refine (rputInt_any _ _ _ zs _ HI.out (by omega) _ H.out).mono ?_; intro e w1 hp; obtain ⟨v1, rfl, ho1, hb1⟩ := own_some hp; have HO1 := hid ho1; have HB1 := hid hb1; clear ho1 hb1 hp)
 go_loopw [5, 6] (fun v i wr => ∃ (k : Nat) (ys : List Int), k ≤ len2 ∧ i = .int .i64 k ∧ ys.length ≤ len + 11 + 11 * k ∧ Hid (ys = zs ++ C.enc (C.zig (len2 : Int)) ++ encs (ns.take k)) ∧ Hid (Own wr w.heap.size v ys) ∧ Hid (Below w.heap.size w wr)) (fun _ i _ => len2 - (intOf i).toNat)
 case atStart => exact ⟨0, zs ++ C.enc (C.zig (len2 : Int)), Nat.zero_le _, rfl, by rw [List.length_append, HZl.out]; omega, hid (by simp [encs]), HO1, HB1⟩
 case round =>
  obtain ⟨k, ys, hk, rfl, hyl, HY, HO2, HB2⟩ := hrel
  by_cases hlt : k < len2
  ·obtain ⟨b, o, rfl, z, hzk, hz64, hbl, hcell0⟩ := HN.out.int hlt
   have hcell := (HB2.out.cell (p := ⟨b, o + k, none⟩) hbl).trans hcell0
   have HZ := hid hz64
   have HE := hid (C.enc_bd (C.zig_lt hz64))
   have HS := hid (show ys ++ C.enc (C.zig z) = zs ++ C.enc (C.zig (len2 : Int)) ++ encs (ns.take (k + 1)) by rw [take_snoc (by rw [HLen.out]; exact hlt) hzk, encs_snoc, HY.out]; simp only [List.append_assoc])
   have HBw := hid HB2.out.size
   have hsum : ys.length + (C.enc (C.zig z)).length ≤ 1000000 := by have := HE.out.2.2; omega
   have HSum := hid hsum
   clear hcell0 hzk hz64 hsum
   go_wp2_with (first
    | (go_at_call 139; refine (rint_any z HZ.out _).mono ?_; rintro e w3 ⟨A3, c3, rfl, ho3, hb3⟩; have HS3 := hid (OwnPost.sl (w := w) ho3 HE.out.1); have HO3 := hid (own_below HO2.out hb3); have HB3 := hid (HB2.out.trans (hb3.mono HBw.out)); clear ho3 hb3)
    | (at_builtin; (refine app_bytes rfl (.tmp 17) (.tmp 22) ?_ (B := w.heap.size) _ ys ?_ HO3.out HB3.out.size A3 (C.enc (C.zig z)).length c3 (C.enc (C.zig z)) ?_ HS3.out HSum.out ?_); (rfl); (rfl); (rfl); intro v4 w4 ho4 hb4; have HO4 := hid ho4; have HB4 := hid (HB3.out.trans hb4); clear ho4 hb4))
   go_roundw
   case rel => exact ⟨k + 1, ys ++ C.enc (C.zig z), by omega, by go_num, by rw [List.length_append]; have := HE.out.2.2; omega, HS, HO4, HB4⟩
   case measure => simp [intOf]; omega
  ·have HF := hid (show ys = zs ++ C.enc (C.zig (len2 : Int)) ++ encs ns by rw [HY.out, List.take_of_length_le (by rw [HLen.out]; omega)])
   have ho := HO2.out
   rw [HF.out] at ho
   have HP := hid (own_post ho HB2.out)
   clear ho
   go_wp2
   go_ret
   exact HP.out

set_option maxHeartbeats 1600000 in
theorem rputTexts_any (a : Option Addr) (len cap : Nat) (zs : List Int) (a2 : Option Addr) (len2 cap2 : Nat) (ns : List ByteArray) (hl : len ≤ 300000) (hl2 : len2 ≤ 5000) (hsum : (ents ns).length ≤ 400000) (w : World) (h : Sl w a len cap zs) (hn : Ts w a2 len2 cap2 ns) :
  Calls Tryz.prog 121 #[.slice a len cap, .slice a2 len2 cap2] w (OwnPost w.heap.size w (zs ++ C.enc (C.zig (len2 : Int)) ++ ents ns)) := by
 have H := hid h
 have HN := hid hn
 have HLen := hid hn.sz
 have HZl := hid h.sz
 have HZb := hid h.bd
 have hlb := C.enc_bd (C.zig_lt (in_len len2 (by omega)))
 have HLB := hid hlb
 have HI := hid (in_len len2 (by omega))
 have HS0 := hid hsum
 clear h hn hsum hlb
 go_enter Tryz.func121, Tryz.ntmps121
 go_wp2_with (go_at_call 79; refine (rputInt_any _ _ _ zs _ HI.out (by omega) _ H.out).mono ?_; intro e w1 hp; obtain ⟨A1, c1, rfl, ho1, hb1⟩ := hp; have HO1 := hid ho1; have HB1 := hid hb1; clear ho1 hb1)
 go_loopw [5, 6] (fun v i wr => ∃ (A : Option Addr) (c k : Nat) (ys : List Int), k ≤ len2 ∧ v = .slice A ys.length c ∧ i = .int .i64 k ∧ Hid (ys = zs ++ C.enc (C.zig (len2 : Int)) ++ ents (ns.take k)) ∧ Hid (Own wr w.heap.size (.slice A ys.length c) ys) ∧ Hid (Below w.heap.size w wr)) (fun _ i _ => len2 - (intOf i).toNat)
 case atStart => exact ⟨A1, c1, 0, zs ++ C.enc (C.zig (len2 : Int)), Nat.zero_le _, by first | rfl | rw [List.length_append], rfl, hid (by simp [ents]), HO1, HB1⟩
 case round =>
  obtain ⟨A2, c2, k, ys, hk, rfl, rfl, HY, HO2, HB2⟩ := hrel
  by_cases hlt : k < len2
  ·obtain ⟨b, o, rfl, z, hzk, hsm, hbl, hcell0⟩ := HN.out.text hlt
   have hcell := (HB2.out.cell (p := ⟨b, o + k, none⟩) hbl).trans hcell0
   have HZ := hid hsm
   have hS : ys ++ ent z = zs ++ C.enc (C.zig (len2 : Int)) ++ ents (ns.take (k + 1)) := by rw [take_snocT (by rw [HLen.out]; exact hlt) hzk, ents_snoc, HY.out]; simp only [List.append_assoc]
   have hyb : ys.length + z.size ≤ 800000 := by
    have h1 := congrArg List.length hS
    have h2 := ents_take (ss := ns) (k + 1)
    have h3 := (ent_bd hsm).2
    have h4 := HS0.out
    have h5 := HZl.out
    have h6 := HLB.out.2.2
    simp only [List.length_append] at h1
    omega
   have hbd : ∀ x ∈ ys, 0 ≤ x ∧ x ≤ 255 := by
    rw [HY.out]
    exact bd_app (bd_app HZb.out HLB.out.1) (ents_bd (fun s hs => HN.out.bd s (List.mem_of_mem_take hs)))
   have HSl := hid (OwnPost.sl (w := w) HO2.out hbd)
   have HS := hid hS
   have HBw := hid HB2.out.size
   clear hcell0 hzk hsm hS hbd
   go_wp2_with (go_at_call 80; refine (rputText_any A2 ys.length c2 ys _ HZ.out hyb _ HSl.out).mono ?_; rintro e w3 ⟨A3, c3, rfl, ho3, hb3⟩; have HO3 := hid (own_mono ho3 HBw.out); have HB3 := hid (HB2.out.trans (hb3.mono HBw.out)); clear ho3 hb3)
   go_roundw
   case rel => exact ⟨A3, c3, k + 1, ys ++ ent z, by omega, by first | rfl | rw [List.length_append], by go_num, HS, HO3, HB3⟩
   case measure => simp [intOf]; omega
  ·have hF : ys = zs ++ C.enc (C.zig (len2 : Int)) ++ ents ns := by rw [HY.out, List.take_of_length_le (by rw [HLen.out]; omega)]
   have HF := hid hF
   clear hF
   go_wp2
   go_ret
   exact own_fin HF.out HO2.out HB2.out rfl
end Go.Proofs.YtablocpcgknmaaaGreatDoor.Cd
