/- Plain arithmetic behind the sums' texts: 16 hexadecimal digits and the number that they stand for. No condition. -/
import Derived.Test.YtifoenmgbaikcaaWalks4
open Go Go.RowKit
namespace Go.Proofs.Ytifoenmgbaikcaa.M

/-- The value of a hexadecimal digit, or -1, as the reference takes it. -/
@[irreducible] def rdig (b : Int) : Int := if 48 ≤ b ∧ b ≤ 57 then b - 48 else if 97 ≤ b ∧ b ≤ 102 then b - 97 + 10 else -1
theorem rdig_num (b : Int) (h : 48 ≤ b ∧ b ≤ 57) : b - 48 = rdig b := by unfold rdig; rw [if_pos h]
theorem rdig_let (b : Int) (h : 97 ≤ b ∧ b ≤ 102) : b - 97 + 10 = rdig b := by unfold rdig; rw [if_neg (by omega), if_pos h]
theorem rdig_no (b : Int) (h0 : ¬ (48 ≤ b ∧ b ≤ 57)) (h : ¬ (97 ≤ b ∧ b ≤ 102)) : -1 = rdig b := by unfold rdig; rw [if_neg h0, if_neg h]
theorem rdig_lt (b : Int) : -1 ≤ rdig b ∧ rdig b < 16 := by
  unfold rdig
  split
  · omega
  · split <;> omega
theorem rdig_hexd (n : Int) (h0 : 0 ≤ n) (h1 : n < 16) : rdig (hexd n) = n := by
  by_cases h : n < 10
  · rw [← hexd_lo n h, ← rdig_num _ (by omega)]; omega
  · rw [← hexd_hi n (by omega), ← rdig_let _ (by omega)]; omega
theorem hexd_rdig (b : Int) (h : 0 ≤ rdig b) : hexd (rdig b) = b := by
  by_cases h0 : 48 ≤ b ∧ b ≤ 57
  · rw [← rdig_num b h0, ← hexd_lo _ (by omega)]; omega
  · by_cases h1 : 97 ≤ b ∧ b ≤ 102
    · rw [← rdig_let b h1, ← hexd_hi _ (by omega)]; omega
    · rw [← rdig_no b h0 h1] at h; omega
theorem val_rdig (b : Int) (h : 0 ≤ rdig b) : val b = rdig b := by
  by_cases h0 : 48 ≤ b ∧ b ≤ 57
  · rw [← rdig_num b h0, ← val_lo b (by omega)]
  · by_cases h1 : 97 ≤ b ∧ b ≤ 102
    · rw [← rdig_let b h1, ← val_hi b (by omega)]
    · rw [← rdig_no b h0 h1] at h; omega

def np (l : List Nat) : Nat := l.foldl (fun n d => n * 16 + d) 0
theorem np_nil : np [] = 0 := rfl
theorem np_snoc (l : List Nat) (d : Nat) : np (l ++ [d]) = np l * 16 + d := by simp only [np, List.foldl_append, List.foldl_cons, List.foldl_nil]
theorem np_acc (l : List Nat) : ∀ a : Nat, (∀ d ∈ l, d < 16) → l.foldl (fun n d => n * 16 + d) a + 1 ≤ (a + 1) * 16 ^ l.length := by
  induction l with
  | nil => intro a _; simp
  | cons d l ih =>
    intro a h
    have h1 := ih (a * 16 + d) (fun x hx => h x (by simp [hx]))
    have hd := h d (by simp)
    rw [List.foldl_cons, List.length_cons, Nat.pow_succ]
    refine Nat.le_trans h1 ?_
    rw [Nat.mul_comm (16 ^ l.length) 16, ← Nat.mul_assoc]
    exact Nat.mul_le_mul_right _ (by omega)
theorem np_lt (d : Nat) (l : List Nat) (hd : d ≤ 3) (h : ∀ x ∈ l, x < 16) (hl : l.length ≤ 15) : np (d :: l) < 4611686018427387904 := by
  have h1 := np_acc l d h
  have h2 : 16 ^ l.length ≤ 16 ^ 15 := Nat.pow_le_pow_right (by decide) hl
  have h3 : (d + 1) * 16 ^ l.length ≤ 4 * 16 ^ 15 := Nat.mul_le_mul (by omega) h2
  have h4 : 4 * 16 ^ 15 = 4611686018427387904 := by decide
  have h5 : np (d :: l) = l.foldl (fun n d => n * 16 + d) d := by simp only [np, List.foldl_cons, Nat.zero_mul, Nat.zero_add]
  rw [h5]
  omega

/-- The k last digits of m, to the base 16. -/
def dl (m : Nat) : Nat → List Nat
  | 0 => []
  | k + 1 => dl (m / 16) k ++ [m % 16]
theorem dl_lt (k : Nat) : ∀ m, ∀ d ∈ dl m k, d < 16 := by
  induction k with
  | zero => intro m d h; simp [dl] at h
  | succ k ih =>
    intro m d h
    simp only [dl, List.mem_append, List.mem_singleton] at h
    rcases h with h | h
    · exact ih _ d h
    · omega
theorem np_dl (k : Nat) : ∀ m, np (dl m k) = m % 16 ^ k := by
  induction k with
  | zero => intro m; simp [dl, np, Nat.mod_one]
  | succ k ih =>
    intro m
    rw [dl, np_snoc, ih, Nat.pow_succ, Nat.mul_comm (16 ^ k) 16, Nat.mod_mul]
    omega
theorem dl_np (k : Nat) : ∀ l : List Nat, l.length = k → (∀ d ∈ l, d < 16) → dl (np l) k = l := by
  induction k with
  | zero => intro l h _; rw [List.eq_nil_of_length_eq_zero h]; rfl
  | succ k ih =>
    intro l h hd
    have hne : l ≠ [] := by intro e; subst e; simp at h
    obtain ⟨l', d, rfl⟩ : ∃ l' d, l = l' ++ [d] := ⟨l.dropLast, l.getLast hne, (List.dropLast_concat_getLast hne).symm⟩
    have h1 := hd d (by simp)
    have h2 : (np l' * 16 + d) / 16 = np l' := by omega
    have h3 : (np l' * 16 + d) % 16 = d := by omega
    rw [np_snoc, dl, h2, h3, ih l' (by simpa using h) (fun x hx => hd x (by simp [hx]))]

theorem dgl_dl (m : Nat) : dgl m = (dl m 16).map fun d : Nat => hexd (d : Int) := by
  simp only [dgl, dg, dl, List.map_cons, List.map_nil, List.nil_append, List.cons_append, Nat.div_div_eq_div_mul]
  simp only [Nat.reduceSub, Nat.reducePow, Nat.reduceMul, Nat.div_one]

/-- The digits of a text's bytes. -/
def dn (l : List Int) : List Nat := l.map fun b => (rdig b).toNat
theorem dn_lt (l : List Int) : ∀ d ∈ dn l, d < 16 := by
  intro d h
  simp only [dn, List.mem_map] at h
  obtain ⟨b, _, rfl⟩ := h
  have := rdig_lt b
  omega
theorem poly_acc (l : List Int) : ∀ a : Nat, (∀ b ∈ l, 0 ≤ rdig b) → l.foldl (fun n b => 16 * n + val b) (a : Int) = (((dn l).foldl (fun n d => n * 16 + d) a : Nat) : Int) := by
  induction l with
  | nil => intro a _; rfl
  | cons b l ih =>
    intro a h
    have hb := h b (by simp)
    have e : 16 * (a : Int) + val b = ((a * 16 + (rdig b).toNat : Nat) : Int) := by rw [val_rdig b hb]; omega
    rw [List.foldl_cons, e, ih _ (fun x hx => h x (by simp [hx]))]
    rfl
theorem poly_np (l : List Int) (h : ∀ b ∈ l, 0 ≤ rdig b) : poly l = ((np (dn l) : Nat) : Int) := poly_acc l 0 h

/-- A right text: 16 digits, of which the first one is at most 3. -/
def ok (l : List Int) : Prop := l.length = 16 ∧ (∀ b ∈ l, 0 ≤ rdig b) ∧ rdig (l.getD 0 0) ≤ 3
theorem pre_lt {l : List Int} (h1 : l.length = 16) (h3 : rdig (l.getD 0 0) ≤ 3) (k : Nat) : np (dn (l.take k)) < 4611686018427387904 := by
  match l, h1 with
  | b :: t, h1 =>
    match k with
    | 0 => simp [dn, np]
    | k + 1 =>
      simp only [List.getD_cons_zero] at h3
      rw [List.take_succ_cons]
      exact np_lt (rdig b).toNat (dn (t.take k)) (by omega) (dn_lt _) (by simp [dn] at h1 ⊢; omega)
theorem ok_lt {l : List Int} (h : ok l) (k : Nat) : np (dn (l.take k)) < 4611686018427387904 := pre_lt h.1 h.2.2 k
theorem dn_snoc (l : List Int) (k : Nat) (h : k < l.length) : np (dn (l.take (k + 1))) = np (dn (l.take k)) * 16 + (rdig (l.getD k 0)).toNat := by
  rw [List.take_succ_eq_append_getElem h]
  unfold dn
  rw [List.map_append, List.map_singleton, np_snoc]
  simp [List.getD, h]
theorem ok_lo {l : List Int} (h : ok l) : lo (poly l) = np (dn l) ∧ dgl (np (dn l)) = l := by
  have hlt := ok_lt h 16
  rw [List.take_of_length_le (by rw [h.1]; exact Nat.le_refl _)] at hlt
  refine ⟨by rw [poly_np l h.2.1, lo_nat _ hlt], ?_⟩
  rw [dgl_dl, dl_np 16 (dn l) (by simp [dn, h.1]) (dn_lt l)]
  unfold dn
  rw [List.map_map]
  conv => rhs; rw [← List.map_id l]
  refine List.map_congr_left fun b hb => ?_
  have := h.2.1 b hb
  have e : (((rdig b).toNat : Nat) : Int) = rdig b := by omega
  simp only [Function.comp, e, id]
  exact hexd_rdig b this
theorem ok_of (m : Nat) (hm : m < 4611686018427387904) : ok (dgl m) := by
  refine ⟨rfl, fun b hb => ?_, ?_⟩
  · rw [dgl_dl, List.mem_map] at hb
    obtain ⟨d, hd, rfl⟩ := hb
    have := dl_lt 16 m d hd
    rw [rdig_hexd _ (by omega) (by omega)]
    omega
  · have e : (dgl m).getD 0 0 = hexd ((m / 16 ^ 15 % 16 : Nat) : Int) := by
      simp only [dgl, List.getD_cons_zero]; unfold dg; rfl
    have h16 : (16 : Nat) ^ 15 = 1152921504606846976 := by decide
    rw [e, rdig_hexd _ (by omega) (by omega), h16]
    omega
theorem ok_dgl (m : Nat) (hm : m < 4611686018427387904) : lo (poly (dgl m)) = m := by
  rw [(ok_lo (ok_of m hm)).1]
  have e : dn (dgl m) = dl m 16 := by
    rw [dgl_dl]
    unfold dn
    rw [List.map_map]
    conv => rhs; rw [← List.map_id (dl m 16)]
    refine List.map_congr_left fun d hd => ?_
    have := dl_lt 16 m d hd
    simp only [Function.comp, id]
    rw [rdig_hexd _ (by omega) (by omega)]
    omega
  rw [e, np_dl]
  have h16 : (16 : Nat) ^ 16 = 18446744073709551616 := by decide
  rw [h16]
  omega
theorem ok_iff (l : List Int) : dgl (lo (poly l)) = l ↔ ok l := by
  constructor
  · intro h
    rw [← h]
    exact ok_of _ (lo_lt _)
  · intro h
    rw [(ok_lo h).1]
    exact (ok_lo h).2
end Go.Proofs.Ytifoenmgbaikcaa.M
