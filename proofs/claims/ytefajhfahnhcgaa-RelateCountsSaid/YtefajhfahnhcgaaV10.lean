/- Relations: reacted, Valid. Bound: at most 900000 events. -/
import Derived.Test.YtefajhfahnhcgaaV9
namespace Go.Proofs.Ytefajhfahnhcgaa
open Go Go.RowKit
set_option linter.unusedVariables false
set_option linter.unusedSimpArgs false

set_option maxRecDepth 100000 in
set_option maxHeartbeats 4000000 in
theorem index53 (A : Option Addr) (n c b off g : Nat) (E : Nat → Me) (is : List Nat) (y : Me) (w : World) (h : Pes w A n c b off E is) (hy : At w g 0 y) : Calls Try.prog 53 #[.slice A n c, .func (.func 48) #[] #[.pointer (some ⟨g, 0, none⟩)]] w fun r w' => ∃ k : Int, r = .returned (.int .i64 k) ∧ decide (0 ≤ k) = is.any (fun i => dup (E i) y) ∧ Below w.heap.size w w' := by
  have H := Lib.hid h
  have HY := Lib.hid hy
  have HL := Lib.hid h.len
  have hbig := h.rws.big
  unfold maxLen at hbig
  have HT := Lib.hid (show ∀ k, k < n → dup (E (is.getD k 0)) y = true → is.any (fun i => dup (E i) y) = true from fun k hk h1 => List.any_eq_true.2 ⟨_, getD_mem (by rw [h.len]; exact hk), h1⟩)
  have HN := Lib.hid (show (∀ k, k < n → dup (E (is.getD k 0)) y = false) → is.any (fun i => dup (E i) y) = false from fun h1 => by
    rw [List.any_eq_false]
    intro x hx
    obtain ⟨j, hj, rfl⟩ := List.getElem_of_mem hx
    have := h1 j (by rw [← h.len]; exact hj)
    rw [List.getD_eq_getElem?_getD, List.getElem?_eq_getElem hj] at this
    rw [show dup (E is[j]) y = false from this]; decide)
  generalize is.any (fun i => dup (E i) y) = an at HT HN ⊢
  clear h hy
  go_enter Try.func53, Try.ntmps53
  go_wp2
  go_loopg [5, 8] n (fun gg _ s8 wr => ∃ kk : Nat, kk ≤ n ∧ n - kk ≤ gg ∧ s8 = .int .i64 (kk : Int) ∧ Hid (∀ j, j < kk → dup (E (is.getD j 0)) y = false) ∧ Hid (Below w.heap.size w wr))
  case atStart => exact ⟨0, Nat.zero_le _, by omega, rfl, Lib.hid (fun j hj => absurd hj (Nat.not_lt_zero _)), Lib.hid (Below.refl _ _)⟩
  case round =>
    obtain ⟨kk, hkk, hg, rfl, HJ, BW⟩ := hrel
    by_cases hlt : kk < n
    · have hltz : (kk : Int) < (n : Int) := by omega
      have hk0 : (0 : Int) ≤ (kk : Int) := by omega
      obtain ⟨b1, o1, rfl, q0, hat⟩ := (H.out.below BW.out).get hlt
      have HC := Lib.hid (dup48 b (off + is.getD kk 0 * 29) g 0 (E (is.getD kk 0)) y wr hat (HY.out.below BW.out))
      have HTk := Lib.hid (fun h1 => HT.out kk hlt h1)
      have HJ1 := Lib.hid (show dup (E (is.getD kk 0)) y = false → ∀ j, j < kk + 1 → dup (E (is.getD j 0)) y = false from fun h1 j hj => by
        by_cases e1 : j = kk
        · subst e1; exact h1
        · exact HJ.out j (by omega))
      unfold pv at q0
      clear hat
      cases hd : dup (E (is.getD kk 0)) y with
      | true =>
        rw [hd] at HC
        have HR := Lib.hid (HTk.out hd)
        clear hd HTk HJ1
        generalize is.getD kk 0 = i at q0 HC
        go_wp2_with (first
          | (go_at_call 48; (with_reducible refine HC.out.mono ?_); rintro e w3 ⟨rfl, hb⟩; have B3 := Lib.hid (BW.out.trans (hb.mono BW.out.size)); clear hb)
          | go_in)
        go_ret
        exact ⟨_, rfl, by rw [HR.out]; exact decide_eq_true hk0, B3.out⟩
      | false =>
        rw [hd] at HC
        have HJ2 := Lib.hid (HJ1.out hd)
        clear hd HTk HJ1
        generalize is.getD kk 0 = i at q0 HC
        go_wp2_with (first
          | (go_at_call 48; (with_reducible refine HC.out.mono ?_); rintro e w3 ⟨rfl, hb⟩; have B3 := Lib.hid (BW.out.trans (hb.mono BW.out.size)); clear hb)
          | go_in)
        go_roundg (n - (kk + 1))
        case measure => omega
        case rel => exact ⟨kk + 1, by omega, by omega, by go_num, HJ2, B3⟩
    · have hltz : ¬ (kk : Int) < (n : Int) := by omega
      have HR := Lib.hid (HN.out (fun j hj => HJ.out j (by omega)))
      go_wp2
      go_ret
      exact ⟨-1, rfl, by rw [HR.out]; decide, BW.out⟩
set_option maxHeartbeats 4000000 in
theorem contains47 (A : Option Addr) (n c b off g : Nat) (E : Nat → Me) (is : List Nat) (y : Me) (w : World) (h : Pes w A n c b off E is) (hy : At w g 0 y) : Calls Try.prog 47 #[.slice A n c, .func (.func 48) #[] #[.pointer (some ⟨g, 0, none⟩)]] w fun r w' => r = .returned (.bool (is.any (fun i => dup (E i) y))) ∧ Below w.heap.size w w' := by
  have HC := Lib.hid (index53 A n c b off g E is y w h hy)
  generalize is.any (fun i => dup (E i) y) = an at HC ⊢
  clear h hy
  go_enter Try.func47, Try.ntmps47
  go_wp2_with (first
    | (go_at_call 53; (with_reducible refine HC.out.mono ?_); rintro e w3 ⟨k, rfl, hk, hb⟩; have HK := Lib.hid hk; have B3 := Lib.hid hb; clear hb hk)
    | go_in)
  go_ret
  exact ⟨ret_bl HK.out, B3.out⟩
set_option maxHeartbeats 4000000 in
theorem reacted39 (A : Option Addr) (n c b off : Nat) (E : Nat → Me) (is : List Nat) (y : Me) (w : World) (h : Pes w A n c b off E is) (hf : Fits y) : Calls Try.prog 39 #[.slice A n c, .agg y.cs.toArray] w fun r w' => r = .returned (.bool (is.any (fun i => dup (E i) y))) ∧ Below w.heap.size w w' := by
  have BA := Lib.hid ((Below.refl w.heap.size w).alloc (Nat.le_refl _) (.cells y.cs.toArray 34))
  have HC := Lib.hid (contains47 A n c b off w.heap.size E is y (w.alloc (.cells y.cs.toArray 34)) (h.below BA.out) (at_box w y hf))
  generalize is.any (fun i => dup (E i) y) = an at HC ⊢
  generalize y.cs = cs at BA HC ⊢
  clear h hf
  go_enter Try.func39, Try.ntmps39
  go_wp2_with (first
    | (go_at_call 47; (with_reducible refine HC.out.mono ?_); rintro e w3 ⟨rfl, hb⟩; have B3 := Lib.hid (BA.out.trans (hb.mono BA.out.size)); clear hb)
    | go_in)
  go_ret
  exact ⟨rfl, B3.out⟩
/-- Whether a relation makes sense. -/
def valM (E : Nat → Me) (n : Nat) (y : Me) : Int :=
  if relK y = 0 then 0 else match gt E n (relI y) with
    | none => 5
    | some t => if ¬ (E t).kd = 11 then 1 else if relK y = 2 ∧ relK (E t) = 2 then 1 else if relK y = 3 ∧ ¬ y.sd.toList = (E t).sd.toList then 18 else if relK y = 4 ∧ (onc E n).any (fun i => dup (E i) y) = true then 4 else 0
theorem relI_zero {y : Me} (h : relK y = 0) : relI y = 0 := by
  unfold relK at h
  unfold relI
  by_cases h0 : y.tg ≤ 0
  · rw [if_pos h0]
  · rw [if_neg h0] at h ⊢
    by_cases h1 : y.kd = 12
    · rw [if_pos h1] at h; exact absurd h (by decide)
    · rw [if_neg h1] at h ⊢
      by_cases h2 : y.kd = 13
      · rw [if_pos h2] at h; exact absurd h (by decide)
      · rw [if_neg h2] at h ⊢
        by_cases h3 : y.kd = 11
        · rw [if_pos h3] at h
          split at h <;> exact absurd h (by decide)
        · rw [if_neg h3]
theorem ret_i {a b : Int} (h : a = b) : Ending.returned (.int .i64 a) = .returned (.int .i64 b) := by rw [h]
end Go.Proofs.Ytefajhfahnhcgaa
