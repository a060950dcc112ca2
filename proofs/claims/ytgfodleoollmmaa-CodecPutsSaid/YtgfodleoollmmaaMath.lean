/- Canonical bytes as lists of numbers: the signed number as an unsigned one, its groups of seven bits, and how they are read back. Plain arithmetic; no program. -/
import Derived.Laws.Bits64
open Go
namespace Go.Proofs.Ytgfodleoollmmaa.C

/-- The sign becomes the lowest bit. -/
def zig (n : Int) : Nat := if 0 ≤ n then (2 * n).toNat else (-2 * n - 1).toNat
def zag (u : Nat) : Int := if u % 2 = 0 then ((u / 2 : Nat) : Int) else -((u / 2 : Nat) : Int) - 1
theorem zag_zig (n : Int) : zag (zig n) = n := by
  unfold zag zig
  by_cases h : 0 ≤ n
  · rw [if_pos h, if_pos (by omega)]; omega
  · rw [if_neg h, if_neg (by omega)]; omega
theorem zig_zag (u : Nat) : zig (zag u) = u := by
  unfold zag zig
  by_cases h : u % 2 = 0
  · rw [if_pos h, if_pos (by omega)]; omega
  · rw [if_neg h, if_neg (by omega)]; omega
@[irreducible] def lt64 (u : Nat) : Prop := u < 18446744073709551616
theorem lt64_iff (u : Nat) : lt64 u ↔ u < 18446744073709551616 := by unfold lt64; rfl
@[irreducible] def in64 (n : Int) : Prop := -9223372036854775808 ≤ n ∧ n ≤ 9223372036854775807
theorem in64_iff (n : Int) : in64 n ↔ -9223372036854775808 ≤ n ∧ n ≤ 9223372036854775807 := by unfold in64; rfl
theorem zig_lt {n : Int} (h : in64 n) : lt64 (zig n) := by
  rw [in64_iff] at h; rw [lt64_iff]; unfold zig
  by_cases h0 : 0 ≤ n
  · rw [if_pos h0]; omega
  · rw [if_neg h0]; omega
theorem zag_in {u : Nat} (h : lt64 u) : in64 (zag u) := by
  rw [lt64_iff] at h; rw [in64_iff]; unfold zag
  by_cases h0 : u % 2 = 0
  · rw [if_pos h0]; omega
  · rw [if_neg h0]; omega

theorem nat64 (a : Nat) (h : a < 18446744073709551616) : (BitVec.ofInt 64 (a : Int)).toNat = a := by
  rw [BitVec.ofInt_natCast, BitVec.toNat_ofNat]; exact Nat.mod_eq_of_lt (by omega)
theorem xor_nat (a b : Nat) (ha : a < 18446744073709551616) (hb : b < 18446744073709551616) : bits .xor .u64 (a : Int) (b : Int) = ((a ^^^ b : Nat) : Int) := by
  show IntKind.u64.wrap ((BitVec.ofInt 64 (a : Int) ^^^ BitVec.ofInt 64 (b : Int)).toNat : Int) = _
  rw [BitVec.toNat_xor, nat64 a ha, nat64 b hb, IntKind.wrap_u64]
  have := Nat.xor_lt_two_pow (n := 64) (x := a) (y := b) (by omega) (by omega)
  omega
theorem or_nat (a b : Nat) (ha : a < 18446744073709551616) (hb : b < 18446744073709551616) : bits .or .u64 (a : Int) (b : Int) = ((a ||| b : Nat) : Int) := by
  show IntKind.u64.wrap ((BitVec.ofInt 64 (a : Int) ||| BitVec.ofInt 64 (b : Int)).toNat : Int) = _
  rw [BitVec.toNat_or, nat64 a ha, nat64 b hb, IntKind.wrap_u64]
  have := Nat.or_lt_two_pow (n := 64) (x := a) (y := b) (by omega) (by omega)
  omega
theorem xor_ones (a : Nat) (ha : a < 18446744073709551616) : a ^^^ 18446744073709551615 = 18446744073709551615 - a := by
  have h : ∀ x : BitVec 64, x ^^^ BitVec.allOnes 64 = ~~~ x := fun x => BitVec.xor_allOnes
  have h1 := congrArg BitVec.toNat (h (BitVec.ofNat 64 a))
  rw [BitVec.toNat_xor, BitVec.toNat_allOnes, BitVec.toNat_not, BitVec.toNat_ofNat, Nat.mod_eq_of_lt (by omega)] at h1
  have e : (2 : Nat) ^ 64 - 1 = 18446744073709551615 := by decide
  rw [e] at h1
  omega
theorem zig_own {n : Int} (h0 : 0 ≤ n) (h1 : n ≤ 9223372036854775807) : bits .xor .u64 (n * 2) (n / 9223372036854775808) = (zig n : Int) := by
  obtain ⟨m, rfl⟩ := Int.eq_ofNat_of_zero_le h0
  have e : (m : Int) / 9223372036854775808 = ((0 : Nat) : Int) := by omega
  have e2 : (m : Int) * 2 = ((m * 2 : Nat) : Int) := by omega
  rw [e, e2, xor_nat _ _ (by omega) (by omega), Nat.xor_zero]
  unfold zig; rw [if_pos h0]; omega
theorem zig_ref {n : Int} (h0 : 0 ≤ n) : n * 2 = (zig n : Int) := by unfold zig; rw [if_pos h0]; omega
theorem wrap2 {n : Int} (h0 : n < 0) (h1 : -9223372036854775808 ≤ n) : IntKind.u64.wrap (IntKind.u64.wrap n * 2) = ((2 * n + 18446744073709551616).toNat : Int) := by
  rw [IntKind.wrap_u64, IntKind.wrap_u64]; omega
theorem zig_own_neg {n : Int} (h0 : n < 0) (h1 : -9223372036854775808 ≤ n) :
    bits .xor .u64 (IntKind.u64.wrap (IntKind.u64.wrap n * 2)) (IntKind.u64.wrap (n / 9223372036854775808)) = (zig n : Int) := by
  have e : IntKind.u64.wrap (n / 9223372036854775808) = ((18446744073709551615 : Nat) : Int) := by rw [IntKind.wrap_u64]; omega
  rw [wrap2 h0 h1, e, xor_nat _ _ (by omega) (by omega), xor_ones _ (by omega)]
  unfold zig; rw [if_neg (by omega)]; omega
theorem zig_ref_neg {n : Int} (h0 : n < 0) (h1 : -9223372036854775808 ≤ n) :
    bits .xor .u64 IntKind.u64.max (IntKind.u64.wrap (IntKind.u64.wrap n * 2)) = (zig n : Int) := by
  have e : IntKind.u64.max = ((18446744073709551615 : Nat) : Int) := by decide
  rw [wrap2 h0 h1, e, xor_nat _ _ (by omega) (by omega), Nat.xor_comm, xor_ones _ (by omega)]
  unfold zig; rw [if_neg (by omega)]; omega

/-! ### groups of seven bits -/
def encF : Nat → Nat → List Int
  | 0, u => [(u : Int)]
  | f + 1, u => if u < 128 then [(u : Int)] else ((u % 128 + 128 : Nat) : Int) :: encF f (u / 128)
def enc (u : Nat) : List Int := encF 10 u
theorem encF_more : ∀ (f u : Nat), u < 128 * 128 ^ f → encF (f + 1) u = encF (f + 2) u
  | 0, u, h => by
    have h0 : u < 128 := by simpa using h
    simp [encF, h0]
  | f + 1, u, h => by
    rw [encF, encF.eq_2 u (f + 1 + 1)]
    by_cases h0 : u < 128
    · rw [if_pos h0, if_pos h0]
    · rw [if_neg h0, if_neg h0, encF_more f (u / 128) (by rw [Nat.pow_succ] at h; omega)]
theorem enc_small {u : Nat} (h : u < 128) : enc u = [(u : Int)] := by unfold enc; rw [encF, if_pos h]
theorem enc_big {u : Nat} (h : ¬ u < 128) (hl : lt64 u) : enc u = ((u % 128 + 128 : Nat) : Int) :: enc (u / 128) := by
  rw [lt64_iff] at hl
  unfold enc
  rw [encF, if_neg h, encF_more 8 (u / 128) (by omega)]
theorem lt64_div {u : Nat} (h : lt64 u) : lt64 (u / 128) := by rw [lt64_iff] at *; omega
theorem encF_bd : ∀ (f u : Nat), u < 128 * 128 ^ f → (∀ z ∈ encF f u, 0 ≤ z ∧ z ≤ 255) ∧ 1 ≤ (encF f u).length ∧ (encF f u).length ≤ f + 1
  | 0, u, h => by
    rw [encF]
    refine ⟨fun z hz => ?_, by simp, by simp⟩
    simp at hz; omega
  | f + 1, u, h => by
    rw [encF]
    by_cases h0 : u < 128
    · rw [if_pos h0]
      refine ⟨fun z hz => ?_, by simp, by simp⟩
      simp at hz; omega
    · rw [if_neg h0]
      obtain ⟨h1, h2, h3⟩ := encF_bd f (u / 128) (by rw [Nat.pow_succ] at h; omega)
      refine ⟨fun z hz => ?_, by simp, by simp; omega⟩
      rcases List.mem_cons.1 hz with rfl | hz
      · omega
      · exact h1 z hz
theorem enc_bd {u : Nat} (h : lt64 u) : (∀ z ∈ enc u, 0 ≤ z ∧ z ≤ 255) ∧ 1 ≤ (enc u).length ∧ (enc u).length ≤ 11 := by
  rw [lt64_iff] at h
  exact encF_bd 10 u (by omega)

/-! ### read back -/
def decF : Nat → List Int → Option (Nat × Nat)
  | _, [] => none
  | i, c :: t => if (i = 9 ∧ 1 < c) ∨ (0 < i ∧ c = 0) then none else if c < 128 then some (c.toNat, 1) else
    match decF (i + 1) t with
    | none => none
    | some (u, k) => some (c.toNat - 128 + 128 * u, k + 1)
def dec (zs : List Int) : Option (Nat × Nat) := decF 0 zs
theorem decF_bad {i : Nat} {c : Int} {t : List Int} (h : (i = 9 ∧ 1 < c) ∨ (0 < i ∧ c = 0)) : decF i (c :: t) = none := by rw [decF, if_pos h]
theorem decF_last {i : Nat} {c : Int} {t : List Int} (h : ¬ ((i = 9 ∧ 1 < c) ∨ (0 < i ∧ c = 0))) (hc : c < 128) : decF i (c :: t) = some (c.toNat, 1) := by rw [decF, if_neg h, if_pos hc]
theorem decF_on {i : Nat} {c : Int} {t : List Int} (h : ¬ ((i = 9 ∧ 1 < c) ∨ (0 < i ∧ c = 0))) (hc : ¬ c < 128) : decF i (c :: t) = match decF (i + 1) t with
    | none => none
    | some (u, k) => some (c.toNat - 128 + 128 * u, k + 1) := by rw [decF, if_neg h, if_neg hc]
/-- The greatest value that may begin at byte i, and one more. -/
def cap (i : Nat) : Nat := 2 * 128 ^ (9 - i)
theorem cap_step {i : Nat} (h : i < 9) : cap i = 128 * cap (i + 1) := by
  unfold cap
  rw [show 9 - i = (9 - (i + 1)) + 1 by omega, Nat.pow_succ]; omega
theorem cap_nine : cap 9 = 2 := rfl
theorem cap_zero : cap 0 = 18446744073709551616 := by decide
theorem cap_big {i : Nat} (h : i < 9) : 256 ≤ cap i := by
  rw [cap_step h]
  have : 0 < cap (i + 1) := by unfold cap; exact Nat.mul_pos (by decide) (Nat.pow_pos (by decide))
  have h2 : cap (i + 1) = 2 * 128 ^ (9 - (i + 1)) := rfl
  have : 0 < 128 ^ (9 - (i + 1)) := Nat.pow_pos (by decide)
  omega
theorem decF_some : ∀ (zs : List Int) (i u k : Nat), i ≤ 9 → (∀ z ∈ zs, 0 ≤ z ∧ z ≤ 255) → decF i zs = some (u, k) → u < cap i ∧ (0 < i → 0 < u) ∧ 1 ≤ k ∧ k ≤ zs.length ∧ k + i ≤ 10
  | [], i, u, k, _, _, h => by simp [decF] at h
  | c :: t, i, u, k, hi, hb, h => by
    have hc := hb c (by simp)
    by_cases hbad : (i = 9 ∧ 1 < c) ∨ (0 < i ∧ c = 0)
    · rw [decF_bad hbad] at h; cases h
    · by_cases hl : c < 128
      · rw [decF_last hbad hl] at h
        simp only [Option.some.injEq, Prod.mk.injEq] at h
        obtain ⟨rfl, rfl⟩ := h
        refine ⟨?_, fun h0 => by omega, by omega, by simp, by omega⟩
        by_cases h9 : i = 9
        · subst h9; rw [cap_nine]; omega
        · have := cap_big (show i < 9 by omega); omega
      · rw [decF_on hbad hl] at h
        have h9 : i < 9 := by omega
        cases hd : decF (i + 1) t with
        | none => rw [hd] at h; cases h
        | some p =>
          obtain ⟨u', k'⟩ := p
          rw [hd] at h
          simp only [Option.some.injEq, Prod.mk.injEq] at h
          obtain ⟨rfl, rfl⟩ := h
          obtain ⟨h1, h2, h3, h4, h5⟩ := decF_some t (i + 1) u' k' (by omega) (fun z hz => hb z (by simp [hz])) hd
          have := cap_step h9
          have := h2 (by omega)
          refine ⟨by omega, fun _ => by omega, by omega, by simp; omega, by omega⟩
theorem decF_enc : ∀ (zs : List Int) (i u k : Nat), i ≤ 9 → (∀ z ∈ zs, 0 ≤ z ∧ z ≤ 255) → decF i zs = some (u, k) → zs.take k = enc u
  | [], i, u, k, _, _, h => by simp [decF] at h
  | c :: t, i, u, k, hi, hb, h => by
    have hc := hb c (by simp)
    have hlt := (decF_some (c :: t) i u k hi hb h).1
    by_cases hbad : (i = 9 ∧ 1 < c) ∨ (0 < i ∧ c = 0)
    · rw [decF_bad hbad] at h; cases h
    · by_cases hl : c < 128
      · rw [decF_last hbad hl] at h
        simp only [Option.some.injEq, Prod.mk.injEq] at h
        obtain ⟨rfl, rfl⟩ := h
        rw [enc_small (by omega)]
        simp; omega
      · rw [decF_on hbad hl] at h
        have h9 : i < 9 := by omega
        cases hd : decF (i + 1) t with
        | none => rw [hd] at h; cases h
        | some p =>
          obtain ⟨u', k'⟩ := p
          rw [hd] at h
          simp only [Option.some.injEq, Prod.mk.injEq] at h
          obtain ⟨rfl, rfl⟩ := h
          have h2 := (decF_some t (i + 1) u' k' (by omega) (fun z hz => hb z (by simp [hz])) hd).2.1 (by omega)
          have ih := decF_enc t (i + 1) u' k' (by omega) (fun z hz => hb z (by simp [hz])) hd
          have hcap : cap i ≤ 18446744073709551616 := by
            have : ∀ j, j ≤ 9 → cap (9 - j) ≤ 2 * 128 ^ j := fun j hj => by unfold cap; rw [show 9 - (9 - j) = j by omega]; exact Nat.le_refl _
            have := this (9 - i) (by omega)
            rw [show 9 - (9 - i) = i by omega] at this
            have h3 : 128 ^ (9 - i) ≤ 128 ^ 9 := Nat.pow_le_pow_right (by decide) (by omega)
            have h4 : (128 : Nat) ^ 9 = 9223372036854775808 := by decide
            omega
          rw [enc_big (by omega) ((lt64_iff _).2 (by omega)), List.take_succ_cons, ih]
          rw [show (c.toNat - 128 + 128 * u') / 128 = u' by omega, show (((c.toNat - 128 + 128 * u') % 128 + 128 : Nat) : Int) = c by omega]
theorem enc_decF (f : Nat) : ∀ (i u : Nat) (r : List Int), u < 128 ^ f → lt64 u → i ≤ 9 → u < cap i → (0 < i → 0 < u) → decF i (enc u ++ r) = some (u, (enc u).length) := by
  induction f with
  | zero =>
    intro i u r h hl hi hc h0
    have : u = 0 := by simpa using h
    subst this
    rw [enc_small (by omega)]
    have : i = 0 := by rcases Nat.eq_zero_or_pos i with h | h; exact h; exact absurd (h0 h) (by omega)
    subst this
    rw [List.singleton_append, decF_last (by omega) (by omega)]; rfl
  | succ f ih =>
    intro i u r h hl hi hc h0
    by_cases hs : u < 128
    · rw [enc_small hs, List.singleton_append, decF_last (by
        rintro (⟨rfl, h⟩ | ⟨h1, h2⟩)
        · rw [cap_nine] at hc; omega
        · have := h0 h1; omega) (by omega)]
      simp
    · have h9 : i < 9 := by
        rcases Nat.lt_or_ge i 9 with h | h
        · exact h
        · obtain rfl : i = 9 := by omega
          rw [cap_nine] at hc; omega
      have hcs := cap_step h9
      rw [enc_big hs hl, List.cons_append, decF_on (by rintro (⟨rfl, h⟩ | ⟨h1, h2⟩) <;> omega) (by omega),
        ih (i + 1) (u / 128) r (by rw [Nat.pow_succ] at h; omega) (lt64_div hl) (by omega) (by omega) (fun _ => by omega)]
      simp; omega
theorem dec_enc {u : Nat} (h : lt64 u) (r : List Int) : dec (enc u ++ r) = some (u, (enc u).length) := by
  have h2 := (lt64_iff u).1 h
  exact enc_decF 10 0 u r (by omega) h (by omega) (by rw [cap_zero]; exact h2) (fun h => by omega)
theorem enc_dec {zs : List Int} {u k : Nat} (hb : ∀ z ∈ zs, 0 ≤ z ∧ z ≤ 255) (h : dec zs = some (u, k)) : zs.take k = enc u ∧ lt64 u ∧ 1 ≤ k ∧ k ≤ zs.length ∧ k ≤ 10 := by
  obtain ⟨h1, _, h3, h4, h5⟩ := decF_some zs 0 u k (by omega) hb h
  rw [cap_zero] at h1
  exact ⟨decF_enc zs 0 u k (by omega) hb h, (lt64_iff u).2 h1, h3, h4, by omega⟩

/-! ### the loop from the front: acc is what the first k bytes make -/
def Front (zs : List Int) (k acc : Nat) : Prop := acc < 128 ^ k ∧ dec zs = match decF k (zs.drop k) with
  | none => none
  | some (u, j) => some (acc + 128 ^ k * u, k + j)
theorem front_zero (zs : List Int) : Front zs 0 0 := by
  refine ⟨by decide, ?_⟩
  rw [List.drop_zero]
  show decF 0 zs = _
  cases h : decF 0 zs with
  | none => rfl
  | some p => simp
theorem drop_get {zs : List Int} {k : Nat} {c : Int} (hk : k < zs.length) (hc : zs.getD k 0 = c) : zs.drop k = c :: zs.drop (k + 1) := by
  rw [List.drop_eq_getElem_cons hk, ← hc, List.getD_eq_getElem?_getD, List.getElem?_eq_getElem hk]; rfl
theorem front_bad {zs : List Int} {k acc : Nat} {c : Int} (h : Front zs k acc) (hk : k < zs.length) (hc : zs.getD k 0 = c) (hb : (k = 9 ∧ 1 < c) ∨ (0 < k ∧ c = 0)) : dec zs = none := by
  rw [h.2, drop_get hk hc, decF_bad hb]
theorem front_last {zs : List Int} {k acc : Nat} {c : Int} (h : Front zs k acc) (hk : k < zs.length) (hc : zs.getD k 0 = c) (hb : ¬ ((k = 9 ∧ 1 < c) ∨ (0 < k ∧ c = 0))) (hl : c < 128) :
    dec zs = some (acc + 128 ^ k * c.toNat, k + 1) := by
  rw [h.2, drop_get hk hc, decF_last hb hl]
theorem front_on {zs : List Int} {k acc : Nat} {c : Int} (h : Front zs k acc) (hk : k < zs.length) (hc : zs.getD k 0 = c) (hb : ¬ ((k = 9 ∧ 1 < c) ∨ (0 < k ∧ c = 0))) (hl : ¬ c < 128) (h255 : c ≤ 255) :
    Front zs (k + 1) (acc + 128 ^ k * (c.toNat - 128)) := by
  refine ⟨?_, ?_⟩
  · have h1 := h.1
    have h2 : 128 ^ k * (c.toNat - 128) ≤ 128 ^ k * 127 := Nat.mul_le_mul_left _ (by omega)
    rw [Nat.pow_succ]; omega
  · rw [h.2, drop_get hk hc, decF_on hb hl]
    cases decF (k + 1) (zs.drop (k + 1)) with
    | none => rfl
    | some p =>
      obtain ⟨u, j⟩ := p
      simp only [Option.some.injEq, Prod.mk.injEq]
      refine ⟨?_, by omega⟩
      rw [Nat.pow_succ, Nat.mul_add, Nat.mul_assoc]; omega
theorem front_end {zs : List Int} {k acc : Nat} (h : Front zs k acc) (hk : zs.length ≤ k) : dec zs = none := by
  rw [h.2, List.drop_of_length_le hk]; rfl
theorem and127 (c : Nat) (h : c ≤ 255) : bits .and .u8 (c : Int) 127 = ((c % 128 : Nat) : Int) := by
  have h1 : (BitVec.ofInt 8 (c : Int)).toNat = c := by rw [BitVec.ofInt_natCast, BitVec.toNat_ofNat]; exact Nat.mod_eq_of_lt (by omega)
  have h2 : (BitVec.ofInt 8 (127 : Int)).toNat = 127 := by decide
  show IntKind.u8.wrap ((BitVec.ofInt 8 (c : Int) &&& BitVec.ofInt 8 127).toNat : Int) = _
  rw [BitVec.toNat_and, h1, h2, show (127 : Nat) = 2 ^ 7 - 1 from by decide, Nat.and_two_pow_sub_one_eq_mod]
  have e : ∀ n : Int, IntKind.u8.wrap n = n % 256 := fun n => by simp [IntKind.wrap, IntKind.bits, IntKind.signed]
  rw [e]; omega
theorem pow7 (k : Nat) : (2 : Nat) ^ (7 * k) = 128 ^ k := by rw [Nat.pow_mul]
/-- One group more: no bit meets another. -/
theorem or_step {acc k c : Nat} (h : acc < 128 ^ k) (hc : c ≤ 255) (hk : k ≤ 9) (h9 : k = 9 → c ≤ 1) :
    bits .or .u64 (acc : Int) (IntKind.u64.wrap (IntKind.u64.wrap (bits .and .u8 (c : Int) 127) * 2 ^ (7 * k))) = ((acc + 128 ^ k * (c % 128) : Nat) : Int) := by
  have hp : (128 : Nat) ^ k ≤ 9223372036854775808 := by
    have := Nat.pow_le_pow_right (n := 128) (by decide) hk
    have e : (128 : Nat) ^ 9 = 9223372036854775808 := by decide
    omega
  have hx : 128 ^ k * (c % 128) + 128 ^ k ≤ 18446744073709551616 := by
    by_cases e : k = 9
    · subst e
      have := h9 rfl
      have e2 : (128 : Nat) ^ 9 = 9223372036854775808 := by decide
      rw [e2, Nat.mod_eq_of_lt (show c < 128 by omega)]
      omega
    · have h8 : (128 : Nat) ^ k ≤ 72057594037927936 := by
        have := Nat.pow_le_pow_right (n := 128) (by decide) (show k ≤ 8 by omega)
        have e : (128 : Nat) ^ 8 = 72057594037927936 := by decide
        omega
      have : 128 ^ k * (c % 128) ≤ 128 ^ k * 127 := Nat.mul_le_mul_left _ (by omega)
      omega
  have h1 : IntKind.u64.wrap (bits .and .u8 (c : Int) 127) = ((c % 128 : Nat) : Int) := by rw [and127 c hc, IntKind.wrap_u64]; omega
  have h2 : ((c % 128 : Nat) : Int) * 2 ^ (7 * k) = ((128 ^ k * (c % 128) : Nat) : Int) := by
    rw [show ((2 : Int) ^ (7 * k)) = (((2 : Nat) ^ (7 * k) : Nat) : Int) by simp, pow7, ← Int.natCast_mul, Nat.mul_comm]
  have hpos : 0 < 128 ^ k := Nat.pow_pos (by decide)
  rw [h1, h2, IntKind.wrap_u64]
  have h3 : ((128 ^ k * (c % 128) : Nat) : Int) % 18446744073709551616 = ((128 ^ k * (c % 128) : Nat) : Int) := Int.emod_eq_of_lt (by omega) (by omega)
  rw [h3, or_nat _ _ (by omega) (by omega)]
  congr 1
  have h4 := Nat.shiftLeft_add_eq_or_of_lt (a := c % 128) (b := acc) (i := 7 * k) (by rw [pow7]; exact h)
  rw [Nat.shiftLeft_eq, pow7, Nat.mul_comm] at h4
  rw [Nat.or_comm, ← h4, Nat.add_comm]

/-! ### the reference's way: all bytes but the last are 128 or more; then from the back -/
def hor : List Int → Nat
  | [] => 0
  | c :: t => c.toNat % 128 + 128 * hor t
theorem decF_char : ∀ (k i : Nat) (zs : List Int), i + k ≤ 9 → (∀ j, j < k → 128 ≤ zs.getD j 0 ∧ zs.getD j 0 ≤ 255) → k < zs.length → 0 ≤ zs.getD k 0 → zs.getD k 0 < 128 →
    decF i zs = if (i + k = 9 ∧ 1 < zs.getD k 0) ∨ (0 < i + k ∧ zs.getD k 0 = 0) then none else some (hor (zs.take (k + 1)), k + 1)
  | 0, i, [], _, _, hl, _, _ => by simp at hl
  | 0, i, c :: t, h9, hh, hl, h0, h1 => by
    simp only [List.getD_cons_zero, Nat.add_zero] at *
    by_cases hb : (i = 9 ∧ 1 < c) ∨ (0 < i ∧ c = 0)
    · rw [decF_bad hb, if_pos hb]
    · rw [decF_last hb h1, if_neg hb]
      simp [hor]; omega
  | k + 1, i, [], _, _, hl, _, _ => by simp at hl
  | k + 1, i, c :: t, h9, hh, hl, h0, h1 => by
    have hc := hh 0 (by omega)
    simp only [List.getD_cons_zero] at hc
    simp only [List.getD_cons_succ] at *
    have ih := decF_char k (i + 1) t (by omega) (fun j hj => by have := hh (j + 1) (by omega); simpa using this) (by simpa using hl) h0 h1
    rw [decF_on (by omega) (by omega), ih, show i + 1 + k = i + (k + 1) by omega]
    by_cases hb : (i + (k + 1) = 9 ∧ 1 < t.getD k 0) ∨ (0 < i + (k + 1) ∧ t.getD k 0 = 0)
    · rw [if_pos hb, if_pos hb]
    · rw [if_neg hb, if_neg hb]
      simp [hor]; omega
theorem decF_all : ∀ (zs : List Int) (i : Nat), (∀ j, j < zs.length → 128 ≤ zs.getD j 0) → decF i zs = none
  | [], i, _ => rfl
  | c :: t, i, h => by
    have hc := h 0 (by simp)
    simp only [List.getD_cons_zero] at hc
    by_cases hb : (i = 9 ∧ 1 < c) ∨ (0 < i ∧ c = 0)
    · rw [decF_bad hb]
    · rw [decF_on hb (by omega), decF_all t (i + 1) (fun j hj => by have := h (j + 1) (by simpa using hj); simpa using this)]
theorem decF_ten : ∀ (n i : Nat) (zs : List Int), i + n = 9 → n < zs.length → (∀ j, j < n + 1 → 128 ≤ zs.getD j 0) → decF i zs = none
  | _, i, [], _, hl, _ => by simp at hl
  | 0, i, c :: t, hi, hl, h => by
    have hc := h 0 (by omega)
    simp only [List.getD_cons_zero] at hc
    rw [decF_bad (.inl ⟨by omega, by omega⟩)]
  | n + 1, i, c :: t, hi, hl, h => by
    have hc := h 0 (by omega)
    simp only [List.getD_cons_zero] at hc
    rw [decF_on (by omega) (by omega), decF_ten n (i + 1) t (by omega) (by simpa using hl) (fun j hj => by have := h (j + 1) (by omega); simpa using this)]
theorem hor_drop {zs : List Int} {i : Nat} (h : i < zs.length) : hor (zs.drop i) = (zs.getD i 0).toNat % 128 + 128 * hor (zs.drop (i + 1)) := by
  rw [drop_get h rfl, hor]
theorem hor_lt : ∀ (zs : List Int), hor zs < 128 ^ zs.length
  | [] => by simp [hor]
  | c :: t => by
    have := hor_lt t
    rw [hor, List.length_cons, Nat.pow_succ]; omega
end Go.Proofs.Ytgfodleoollmmaa.C
