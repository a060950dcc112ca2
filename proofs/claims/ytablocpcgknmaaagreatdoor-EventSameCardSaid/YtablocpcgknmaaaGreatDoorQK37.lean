/- What is left of a content: plain facts. No condition. -/
import Derived.Test.YtablocpcgknmaaaGreatDoorQK20
import Derived.Test.YtablocpcgknmaaaGreatDoorQK25
namespace Go.Proofs.YtablocpcgknmaaaGreatDoor
open Go Go.RowKit
set_option linter.unusedVariables false
set_option linter.unusedSimpArgs false
set_option maxRecDepth 100000

theorem sameN_refl : ∀ l : List Int, sameN l l = true
 | [] => rfl
 | x :: r => by
  show (decide (x = x) && sameN r r) = true
  rw [sameN_refl r, decide_eq_true rfl]; rfl
theorem sameC_refl (C : Cn) : sameC C C = true := by
 obtain ⟨tx, n, tg, th, via, al, dn, us, ks, d, x3, x4, x5, x6, x7, x8⟩ := C
 unfold sameC sameL
 simp [sameN_refl]
theorem same20r (C : Cn) (a a' : Ads) (w : World) (h : IsC w C a) (h' : IsC w C a') : Calls Tryz.prog 84 #[.agg (ccs C a).toArray, .agg (ccs C a').toArray] w fun e w' => e = .returned (.bool true) ∧ Below w.heap.size w w' := by
 have := same20 C C a a' w h h'
 rwa [sameC_refl] at this
theorem same23r (C : Cn) (a a' : Ads) (w : World) (h : IsC w C a) (h' : IsC w C a') : Calls Tryz.prog 35 #[.agg (ccs C a).toArray, .agg (ccs C a').toArray] w fun e w' => e = .returned (.bool true) ∧ Below w.heap.size w w' := by
 have := same23 C C a a' w h h'
 rwa [sameC_refl] at this
theorem SmE.smc {C : Cn} (h : SmE C) : SmC C := ⟨Nat.le_trans h.al (by decide), Nat.le_trans h.dn (by decide), Nat.le_trans h.lv.lu (by decide), Nat.le_trans h.lv.lk (by decide)⟩
theorem iteII {α : Type} {b : Prop} [Decidable b] {x z : α} : (if b then (if b then x else z) else z) = if b then x else z := by
 split <;> rfl
theorem kc_kc (s : Int) (C : Cn) (j : Nat) : kc s (kc s C j) j = kc s C j := by
 unfold kc
 simp only [iteII]
theorem strip_strip (k : Int) (C : Cn) : strip k (strip k C) = strip k C := by
 unfold strip
 split
 ·exact kc_kc _ C 8
 ·rfl
theorem p8 {p : Nat → Prop} (h0 : p 0) (h1 : p 1) (h2 : p 2) (h3 : p 3) (h4 : p 4) (h5 : p 5) (h6 : p 6) (h7 : p 7) : ∀ i, i < 8 → p i := fun i hi =>
 match i, hi with
 | 0, _ => h0
 | 1, _ => h1
 | 2, _ => h2
 | 3, _ => h3
 | 4, _ => h4
 | 5, _ => h5
 | 6, _ => h6
 | 7, _ => h7
theorem bad_of {s : Int} {C : Cn} : ∀ n i : Nat, (∀ j : Nat, i ≤ j → j < i + n → hasB s (j : Int) = false → hz C j = true) → badE s C i n = false
 | 0, _, _ => rfl
 | n + 1, i, h => by
  show ((!hz C i && !hasB s i) || badE s C (i + 1) n) = false
  rw [bad_of n (i + 1) (fun j h1 h2 h3 => h j (by omega) (by omega) h3), Bool.or_false]
  rcases e : hasB s (i : Int) with _ | _
  ·rw [h i (Nat.le_refl _) (by omega) e]; rfl
  ·simp
theorem fst_of {s k : Int} {C : Cn} : ∀ n i : Nat, (∀ j : Nat, i ≤ j → j < i + n → hasB s (j : Int) = true → ck k C j = 0) → fstE s k C i n = 0
 | 0, _, _ => rfl
 | n + 1, i, h => by
  show (if hasB s i = true ∧ ¬ ck k C i = 0 then ck k C i else fstE s k C (i + 1) n) = 0
  rw [if_neg (fun q => q.2 (h i (Nat.le_refl _) (by omega) q.1))]
  exact fst_of n (i + 1) (fun j h1 h2 h3 => h j (by omega) (by omega) h3)
theorem fst_to {s k : Int} {C : Cn} : ∀ n i : Nat, fstE s k C i n = 0 → ∀ j : Nat, i ≤ j → j < i + n → hasB s (j : Int) = true → ck k C j = 0
 | 0, i, _, j, h1, h2, _ => by omega
 | n + 1, i, h, j, h1, h2, h3 => by
  have h' : (if hasB s i = true ∧ ¬ ck k C i = 0 then ck k C i else fstE s k C (i + 1) n) = 0 := h
  by_cases e : hasB s i = true ∧ ¬ ck k C i = 0
  ·rw [if_pos e] at h'
   exact absurd h' e.2
  ·rw [if_neg e] at h'
   by_cases e2 : j = i
   ·subst e2
    rcases Decidable.em (ck k C j = 0) with q | q
    ·exact q
    ·exact absurd ⟨h3, q⟩ e
   ·exact fst_to n (i + 1) h' j (by omega) (by omega) h3
/-- A right content: its kind is one; unused fields are zero; the used ones are right, unless all is zero and may be. -/
theorem pchk_zero {k : Int} {C : Cn} (h : pchk k C = 0) : kdB k = true ∧ badE (usT k) C 0 8 = false ∧ ((azE C 0 8 = true ∧ kpT k = 0) ∨ fstE (usT k) k C 0 8 = 0) := by
 unfold pchk at h
 rcases e : kdB k with _ | _
 ·rw [if_pos e] at h; exact absurd h (by decide)
 ·rw [if_neg (by rw [e]; decide)] at h
  rcases e2 : badE (usT k) C 0 8 with _ | _
  ·rw [if_neg (by rw [e2]; decide)] at h
   refine ⟨rfl, rfl, ?_⟩
   rcases Decidable.em (azE C 0 8 = true ∧ kpT k = 0) with q | q
   ·exact .inl q
   ·rw [if_neg q] at h; exact .inr h
  ·rw [if_pos e2] at h; exact absurd h (by decide)
theorem pchk_is {k : Int} {C : Cn} (h1 : kdB k = true) (h2 : badE (usT k) C 0 8 = false) (h3 : fstE (usT k) k C 0 8 = 0) : pchk k C = 0 := by
 unfold pchk
 rw [if_neg (by rw [h1]; decide), if_neg (by rw [h2]; decide)]
 split
 ·rfl
 ·exact h3
theorem pchk_vanish {k : Int} {C : Cn} (h1 : kdB k = true) (h2 : badE (usT k) C 0 8 = false) (h3 : azE C 0 8 = true) (h4 : kpT k = 0) : pchk k C = 0 := by
 unfold pchk
 rw [if_neg (by rw [h1]; decide), if_neg (by rw [h2]; decide), if_pos ⟨h3, h4⟩]
theorem strip_all (C : Cn) : strip 1 C = C := by
 obtain ⟨tx, n, tg, th, via, al, dn, us, ks, d, x3, x4, x5, x6, x7, x8⟩ := C
 kernel_rfl
theorem bad_2 (C : Cn) : badE (usT 2) (strip 2 C) 0 8 = false :=
 bad_of 8 0 (fun j _ h2 => p8 (p := fun j => hasB (usT 2) (j : Int) = false → hz (strip 2 C) j = true) (fun h => absurd ((show hasB (usT 2) ((0 : Nat) : Int) = true by kernel_rfl).symm.trans h) (by decide)) (fun h => absurd ((show hasB (usT 2) ((1 : Nat) : Int) = true by kernel_rfl).symm.trans h) (by decide)) (fun _ => by kernel_rfl) (fun _ => by kernel_rfl) (fun h => absurd ((show hasB (usT 2) ((4 : Nat) : Int) = true by kernel_rfl).symm.trans h) (by decide)) (fun _ => by kernel_rfl) (fun _ => by kernel_rfl) (fun _ => by kernel_rfl) j (by omega))
theorem bad_3 (C : Cn) : badE (usT 3) (strip 3 C) 0 8 = false :=
 bad_of 8 0 (fun j _ h2 => p8 (p := fun j => hasB (usT 3) (j : Int) = false → hz (strip 3 C) j = true) (fun _ => by kernel_rfl) (fun _ => by kernel_rfl) (fun _ => by kernel_rfl) (fun _ => by kernel_rfl) (fun _ => by kernel_rfl) (fun _ => by kernel_rfl) (fun _ => by kernel_rfl) (fun h => absurd ((show hasB (usT 3) ((7 : Nat) : Int) = true by kernel_rfl).symm.trans h) (by decide)) j (by omega))
theorem bad_4 (C : Cn) : badE (usT 4) (strip 4 C) 0 8 = false :=
 bad_of 8 0 (fun j _ h2 => p8 (p := fun j => hasB (usT 4) (j : Int) = false → hz (strip 4 C) j = true) (fun _ => by kernel_rfl) (fun h => absurd ((show hasB (usT 4) ((1 : Nat) : Int) = true by kernel_rfl).symm.trans h) (by decide)) (fun _ => by kernel_rfl) (fun _ => by kernel_rfl) (fun _ => by kernel_rfl) (fun h => absurd ((show hasB (usT 4) ((5 : Nat) : Int) = true by kernel_rfl).symm.trans h) (by decide)) (fun _ => by kernel_rfl) (fun _ => by kernel_rfl) j (by omega))
theorem bad_5 (C : Cn) : badE (usT 5) (strip 5 C) 0 8 = false :=
 bad_of 8 0 (fun j _ h2 => p8 (p := fun j => hasB (usT 5) (j : Int) = false → hz (strip 5 C) j = true) (fun _ => by kernel_rfl) (fun h => absurd ((show hasB (usT 5) ((1 : Nat) : Int) = true by kernel_rfl).symm.trans h) (by decide)) (fun _ => by kernel_rfl) (fun _ => by kernel_rfl) (fun _ => by kernel_rfl) (fun _ => by kernel_rfl) (fun _ => by kernel_rfl) (fun _ => by kernel_rfl) j (by omega))
theorem bad_6 (C : Cn) : badE (usT 6) (strip 6 C) 0 8 = false :=
 bad_of 8 0 (fun j _ h2 => p8 (p := fun j => hasB (usT 6) (j : Int) = false → hz (strip 6 C) j = true) (fun _ => by kernel_rfl) (fun _ => by kernel_rfl) (fun _ => by kernel_rfl) (fun _ => by kernel_rfl) (fun _ => by kernel_rfl) (fun h => absurd ((show hasB (usT 6) ((5 : Nat) : Int) = true by kernel_rfl).symm.trans h) (by decide)) (fun h => absurd ((show hasB (usT 6) ((6 : Nat) : Int) = true by kernel_rfl).symm.trans h) (by decide)) (fun _ => by kernel_rfl) j (by omega))
theorem bad_7 (C : Cn) : badE (usT 7) (strip 7 C) 0 8 = false :=
 bad_of 8 0 (fun j _ h2 => p8 (p := fun j => hasB (usT 7) (j : Int) = false → hz (strip 7 C) j = true) (fun h => absurd ((show hasB (usT 7) ((0 : Nat) : Int) = true by kernel_rfl).symm.trans h) (by decide)) (fun _ => by kernel_rfl) (fun _ => by kernel_rfl) (fun _ => by kernel_rfl) (fun _ => by kernel_rfl) (fun _ => by kernel_rfl) (fun _ => by kernel_rfl) (fun _ => by kernel_rfl) j (by omega))
theorem bad_8 (C : Cn) : badE (usT 8) (strip 8 C) 0 8 = false :=
 bad_of 8 0 (fun j _ h2 => p8 (p := fun j => hasB (usT 8) (j : Int) = false → hz (strip 8 C) j = true) (fun _ => by kernel_rfl) (fun h => absurd ((show hasB (usT 8) ((1 : Nat) : Int) = true by kernel_rfl).symm.trans h) (by decide)) (fun _ => by kernel_rfl) (fun _ => by kernel_rfl) (fun _ => by kernel_rfl) (fun _ => by kernel_rfl) (fun _ => by kernel_rfl) (fun _ => by kernel_rfl) j (by omega))
theorem bad_9 (C : Cn) : badE (usT 9) (strip 9 C) 0 8 = false :=
 bad_of 8 0 (fun j _ h2 => p8 (p := fun j => hasB (usT 9) (j : Int) = false → hz (strip 9 C) j = true) (fun h => absurd ((show hasB (usT 9) ((0 : Nat) : Int) = true by kernel_rfl).symm.trans h) (by decide)) (fun h => absurd ((show hasB (usT 9) ((1 : Nat) : Int) = true by kernel_rfl).symm.trans h) (by decide)) (fun _ => by kernel_rfl) (fun _ => by kernel_rfl) (fun _ => by kernel_rfl) (fun _ => by kernel_rfl) (fun _ => by kernel_rfl) (fun _ => by kernel_rfl) j (by omega))
theorem bad_10 (C : Cn) : badE (usT 10) (strip 10 C) 0 8 = false :=
 bad_of 8 0 (fun j _ h2 => p8 (p := fun j => hasB (usT 10) (j : Int) = false → hz (strip 10 C) j = true) (fun _ => by kernel_rfl) (fun h => absurd ((show hasB (usT 10) ((1 : Nat) : Int) = true by kernel_rfl).symm.trans h) (by decide)) (fun _ => by kernel_rfl) (fun _ => by kernel_rfl) (fun _ => by kernel_rfl) (fun _ => by kernel_rfl) (fun _ => by kernel_rfl) (fun _ => by kernel_rfl) j (by omega))
theorem bad_11 (C : Cn) : badE (usT 11) (strip 11 C) 0 8 = false :=
 bad_of 8 0 (fun j _ h2 => p8 (p := fun j => hasB (usT 11) (j : Int) = false → hz (strip 11 C) j = true) (fun h => absurd ((show hasB (usT 11) ((0 : Nat) : Int) = true by kernel_rfl).symm.trans h) (by decide)) (fun _ => by kernel_rfl) (fun h => absurd ((show hasB (usT 11) ((2 : Nat) : Int) = true by kernel_rfl).symm.trans h) (by decide)) (fun h => absurd ((show hasB (usT 11) ((3 : Nat) : Int) = true by kernel_rfl).symm.trans h) (by decide)) (fun _ => by kernel_rfl) (fun _ => by kernel_rfl) (fun _ => by kernel_rfl) (fun _ => by kernel_rfl) j (by omega))
theorem bad_12 (C : Cn) : badE (usT 12) (strip 12 C) 0 8 = false :=
 bad_of 8 0 (fun j _ h2 => p8 (p := fun j => hasB (usT 12) (j : Int) = false → hz (strip 12 C) j = true) (fun h => absurd ((show hasB (usT 12) ((0 : Nat) : Int) = true by kernel_rfl).symm.trans h) (by decide)) (fun _ => by kernel_rfl) (fun h => absurd ((show hasB (usT 12) ((2 : Nat) : Int) = true by kernel_rfl).symm.trans h) (by decide)) (fun _ => by kernel_rfl) (fun _ => by kernel_rfl) (fun _ => by kernel_rfl) (fun _ => by kernel_rfl) (fun _ => by kernel_rfl) j (by omega))
theorem bad_13 (C : Cn) : badE (usT 13) (strip 13 C) 0 8 = false :=
 bad_of 8 0 (fun j _ h2 => p8 (p := fun j => hasB (usT 13) (j : Int) = false → hz (strip 13 C) j = true) (fun h => absurd ((show hasB (usT 13) ((0 : Nat) : Int) = true by kernel_rfl).symm.trans h) (by decide)) (fun _ => by kernel_rfl) (fun h => absurd ((show hasB (usT 13) ((2 : Nat) : Int) = true by kernel_rfl).symm.trans h) (by decide)) (fun _ => by kernel_rfl) (fun _ => by kernel_rfl) (fun _ => by kernel_rfl) (fun _ => by kernel_rfl) (fun _ => by kernel_rfl) j (by omega))
theorem bad_14 (C : Cn) : badE (usT 14) (strip 14 C) 0 8 = false :=
 bad_of 8 0 (fun j _ h2 => p8 (p := fun j => hasB (usT 14) (j : Int) = false → hz (strip 14 C) j = true) (fun h => absurd ((show hasB (usT 14) ((0 : Nat) : Int) = true by kernel_rfl).symm.trans h) (by decide)) (fun _ => by kernel_rfl) (fun h => absurd ((show hasB (usT 14) ((2 : Nat) : Int) = true by kernel_rfl).symm.trans h) (by decide)) (fun _ => by kernel_rfl) (fun _ => by kernel_rfl) (fun _ => by kernel_rfl) (fun _ => by kernel_rfl) (fun _ => by kernel_rfl) j (by omega))
theorem kd_cases {k : Int} (h : kdB k = true) : k = 1 ∨ k = 2 ∨ k = 3 ∨ k = 4 ∨ k = 5 ∨ k = 6 ∨ k = 7 ∨ k = 8 ∨ k = 9 ∨ k = 10 ∨ k = 11 ∨ k = 12 ∨ k = 13 ∨ k = 14 := by
 have := of_decide_eq_true (show decide (1 ≤ k ∧ k ≤ 14) = true from h)
 omega
/-- What a redaction leaves of a right content is right. -/
theorem pchk_strip {k : Int} {C : Cn} (h : pchk k C = 0) : pchk k (strip k C) = 0 := by
 rcases kd_cases (pchk_zero h).1 with rfl | rfl | rfl | rfl | rfl | rfl | rfl | rfl | rfl | rfl | rfl | rfl | rfl | rfl
 ·rw [strip_all]; exact h
 ·have hc := fst_to 8 0 ((pchk_zero h).2.2.resolve_left (fun q => absurd q.2 (by decide)))
  exact pchk_is (by kernel_rfl) (bad_2 C) (fst_of 8 0 (fun j _ h2 => p8 (p := fun j => hasB (usT 2) (j : Int) = true → ck 2 (strip 2 C) j = 0) (fun _ => by kernel_rfl) (fun _ => (show ck 2 (strip 2 C) 1 = ck 2 C 1 by kernel_rfl).trans (hc 1 (by omega) (by omega) (by kernel_rfl))) (fun h => absurd ((show hasB (usT 2) ((2 : Nat) : Int) = false by kernel_rfl).symm.trans h) (by decide)) (fun h => absurd ((show hasB (usT 2) ((3 : Nat) : Int) = false by kernel_rfl).symm.trans h) (by decide)) (fun _ => (show ck 2 (strip 2 C) 4 = ck 2 C 4 by kernel_rfl).trans (hc 4 (by omega) (by omega) (by kernel_rfl))) (fun h => absurd ((show hasB (usT 2) ((5 : Nat) : Int) = false by kernel_rfl).symm.trans h) (by decide)) (fun h => absurd ((show hasB (usT 2) ((6 : Nat) : Int) = false by kernel_rfl).symm.trans h) (by decide)) (fun h => absurd ((show hasB (usT 2) ((7 : Nat) : Int) = false by kernel_rfl).symm.trans h) (by decide)) j (by omega)))
 ·have hc := fst_to 8 0 ((pchk_zero h).2.2.resolve_left (fun q => absurd q.2 (by decide)))
  exact pchk_is (by kernel_rfl) (bad_3 C) (fst_of 8 0 (fun j _ h2 => p8 (p := fun j => hasB (usT 3) (j : Int) = true → ck 3 (strip 3 C) j = 0) (fun h => absurd ((show hasB (usT 3) ((0 : Nat) : Int) = false by kernel_rfl).symm.trans h) (by decide)) (fun h => absurd ((show hasB (usT 3) ((1 : Nat) : Int) = false by kernel_rfl).symm.trans h) (by decide)) (fun h => absurd ((show hasB (usT 3) ((2 : Nat) : Int) = false by kernel_rfl).symm.trans h) (by decide)) (fun h => absurd ((show hasB (usT 3) ((3 : Nat) : Int) = false by kernel_rfl).symm.trans h) (by decide)) (fun h => absurd ((show hasB (usT 3) ((4 : Nat) : Int) = false by kernel_rfl).symm.trans h) (by decide)) (fun h => absurd ((show hasB (usT 3) ((5 : Nat) : Int) = false by kernel_rfl).symm.trans h) (by decide)) (fun h => absurd ((show hasB (usT 3) ((6 : Nat) : Int) = false by kernel_rfl).symm.trans h) (by decide)) (fun _ => (show ck 3 (strip 3 C) 7 = ck 3 C 7 by kernel_rfl).trans (hc 7 (by omega) (by omega) (by kernel_rfl))) j (by omega)))
 ·have hc := fst_to 8 0 ((pchk_zero h).2.2.resolve_left (fun q => absurd q.2 (by decide)))
  exact pchk_is (by kernel_rfl) (bad_4 C) (fst_of 8 0 (fun j _ h2 => p8 (p := fun j => hasB (usT 4) (j : Int) = true → ck 4 (strip 4 C) j = 0) (fun h => absurd ((show hasB (usT 4) ((0 : Nat) : Int) = false by kernel_rfl).symm.trans h) (by decide)) (fun _ => (show ck 4 (strip 4 C) 1 = ck 4 C 1 by kernel_rfl).trans (hc 1 (by omega) (by omega) (by kernel_rfl))) (fun h => absurd ((show hasB (usT 4) ((2 : Nat) : Int) = false by kernel_rfl).symm.trans h) (by decide)) (fun h => absurd ((show hasB (usT 4) ((3 : Nat) : Int) = false by kernel_rfl).symm.trans h) (by decide)) (fun h => absurd ((show hasB (usT 4) ((4 : Nat) : Int) = false by kernel_rfl).symm.trans h) (by decide)) (fun _ => (show ck 4 (strip 4 C) 5 = ck 4 C 5 by kernel_rfl).trans (hc 5 (by omega) (by omega) (by kernel_rfl))) (fun h => absurd ((show hasB (usT 4) ((6 : Nat) : Int) = false by kernel_rfl).symm.trans h) (by decide)) (fun h => absurd ((show hasB (usT 4) ((7 : Nat) : Int) = false by kernel_rfl).symm.trans h) (by decide)) j (by omega)))
 ·have hc := fst_to 8 0 ((pchk_zero h).2.2.resolve_left (fun q => absurd q.2 (by decide)))
  exact pchk_is (by kernel_rfl) (bad_5 C) (fst_of 8 0 (fun j _ h2 => p8 (p := fun j => hasB (usT 5) (j : Int) = true → ck 5 (strip 5 C) j = 0) (fun h => absurd ((show hasB (usT 5) ((0 : Nat) : Int) = false by kernel_rfl).symm.trans h) (by decide)) (fun _ => (show ck 5 (strip 5 C) 1 = ck 5 C 1 by kernel_rfl).trans (hc 1 (by omega) (by omega) (by kernel_rfl))) (fun h => absurd ((show hasB (usT 5) ((2 : Nat) : Int) = false by kernel_rfl).symm.trans h) (by decide)) (fun h => absurd ((show hasB (usT 5) ((3 : Nat) : Int) = false by kernel_rfl).symm.trans h) (by decide)) (fun h => absurd ((show hasB (usT 5) ((4 : Nat) : Int) = false by kernel_rfl).symm.trans h) (by decide)) (fun h => absurd ((show hasB (usT 5) ((5 : Nat) : Int) = false by kernel_rfl).symm.trans h) (by decide)) (fun h => absurd ((show hasB (usT 5) ((6 : Nat) : Int) = false by kernel_rfl).symm.trans h) (by decide)) (fun h => absurd ((show hasB (usT 5) ((7 : Nat) : Int) = false by kernel_rfl).symm.trans h) (by decide)) j (by omega)))
 ·have hc := fst_to 8 0 ((pchk_zero h).2.2.resolve_left (fun q => absurd q.2 (by decide)))
  exact pchk_is (by kernel_rfl) (bad_6 C) (fst_of 8 0 (fun j _ h2 => p8 (p := fun j => hasB (usT 6) (j : Int) = true → ck 6 (strip 6 C) j = 0) (fun h => absurd ((show hasB (usT 6) ((0 : Nat) : Int) = false by kernel_rfl).symm.trans h) (by decide)) (fun h => absurd ((show hasB (usT 6) ((1 : Nat) : Int) = false by kernel_rfl).symm.trans h) (by decide)) (fun h => absurd ((show hasB (usT 6) ((2 : Nat) : Int) = false by kernel_rfl).symm.trans h) (by decide)) (fun h => absurd ((show hasB (usT 6) ((3 : Nat) : Int) = false by kernel_rfl).symm.trans h) (by decide)) (fun h => absurd ((show hasB (usT 6) ((4 : Nat) : Int) = false by kernel_rfl).symm.trans h) (by decide)) (fun _ => (show ck 6 (strip 6 C) 5 = ck 6 C 5 by kernel_rfl).trans (hc 5 (by omega) (by omega) (by kernel_rfl))) (fun _ => (show ck 6 (strip 6 C) 6 = ck 6 C 6 by kernel_rfl).trans (hc 6 (by omega) (by omega) (by kernel_rfl))) (fun h => absurd ((show hasB (usT 6) ((7 : Nat) : Int) = false by kernel_rfl).symm.trans h) (by decide)) j (by omega)))
 ·exact pchk_vanish (by kernel_rfl) (bad_7 C) (by kernel_rfl) (by kernel_rfl)
 ·exact pchk_vanish (by kernel_rfl) (bad_8 C) (by kernel_rfl) (by kernel_rfl)
 ·exact pchk_vanish (by kernel_rfl) (bad_9 C) (by kernel_rfl) (by kernel_rfl)
 ·exact pchk_vanish (by kernel_rfl) (bad_10 C) (by kernel_rfl) (by kernel_rfl)
 ·exact pchk_vanish (by kernel_rfl) (bad_11 C) (by kernel_rfl) (by kernel_rfl)
 ·exact pchk_vanish (by kernel_rfl) (bad_12 C) (by kernel_rfl) (by kernel_rfl)
 ·exact pchk_vanish (by kernel_rfl) (bad_13 C) (by kernel_rfl) (by kernel_rfl)
 ·have hc := fst_to 8 0 ((pchk_zero h).2.2.resolve_left (fun q => absurd q.2 (by decide)))
  exact pchk_is (by kernel_rfl) (bad_14 C) (fst_of 8 0 (fun j _ h2 => p8 (p := fun j => hasB (usT 14) (j : Int) = true → ck 14 (strip 14 C) j = 0) (fun _ => by kernel_rfl) (fun h => absurd ((show hasB (usT 14) ((1 : Nat) : Int) = false by kernel_rfl).symm.trans h) (by decide)) (fun _ => (show ck 14 (strip 14 C) 2 = ck 14 C 2 by kernel_rfl).trans (hc 2 (by omega) (by omega) (by kernel_rfl))) (fun h => absurd ((show hasB (usT 14) ((3 : Nat) : Int) = false by kernel_rfl).symm.trans h) (by decide)) (fun h => absurd ((show hasB (usT 14) ((4 : Nat) : Int) = false by kernel_rfl).symm.trans h) (by decide)) (fun h => absurd ((show hasB (usT 14) ((5 : Nat) : Int) = false by kernel_rfl).symm.trans h) (by decide)) (fun h => absurd ((show hasB (usT 14) ((6 : Nat) : Int) = false by kernel_rfl).symm.trans h) (by decide)) (fun h => absurd ((show hasB (usT 14) ((7 : Nat) : Int) = false by kernel_rfl).symm.trans h) (by decide)) j (by omega)))
end Go.Proofs.YtablocpcgknmaaaGreatDoor
