/- What is left of a content: plain facts. No condition. -/
import Derived.Test.YtablocpcgknmaaaGreatDoorRK20
import Derived.Test.YtablocpcgknmaaaGreatDoorRK25
namespace Go.Proofs.YtablocpcgknmaaaGreatDoor
open Go Go.RowKit
set_option linter.unusedVariables false
set_option linter.unusedSimpArgs false
set_option maxRecDepth 100000

theorem sameN_refl : ∀ l : List Int, sameN l l = true
 | [] => rfl
 |x :: r => by
  show (decide (x = x) && sameN r r) = true
  rw [sameN_refl r, decide_eq_true rfl]; rfl
theorem sameC_refl (C : Cn) : sameC C C = true := by
 obtain ⟨tx, n, tg, th, via, al, dn, us, ks, d, x3, x4, x5, x6, x7, x8⟩ := C
 unfold sameC sameL
 simp [sameN_refl]
theorem same20r (C : Cn) (a a' : Ads) (w : World) (h : IsC w C a) (h' : IsC w C a') : Calls Tryz.prog 84 #[.agg (ccs C a).toArray, .agg (ccs C a').toArray] w fun e w' => e = .returned (.bool true) ∧ Below w.heap.size w w' := by
 have := same20 C C a a' w h h'
 rwa [sameC_refl] at this
theorem same23r (C : Cn) (a a' : Ads) (w : World) (h : IsC w C a) (h' : IsC w C a') : Calls Tryz.prog 35 #[.agg (ccs C a).toArray, .agg (ccs C a').toArray] w fun e w' => e = .returned (.bool true) ∧ Below w.heap.size w w' := by
 have := same23 C C a a' w h h'
 rwa [sameC_refl] at this
theorem SmE.smc {C : Cn} (h : SmE C) : SmC C := ⟨Nat.le_trans h.al (by decide), Nat.le_trans h.dn (by decide), Nat.le_trans h.lv.lu (by decide), Nat.le_trans h.lv.lk (by decide)⟩
theorem iteII {α : Type} {b : Prop} [Decidable b] {x z : α} : (if b then (if b then x else z) else z) = if b then x else z := by
 split <;> rfl
theorem kc_kc (s : Int) (C : Cn) (j : Nat) : kc s (kc s C j) j = kc s C j := by
 unfold kc
 simp only [iteII]
theorem strip_strip (k : Int) (C : Cn) : strip k (strip k C) = strip k C := by
 unfold strip
 split
 ·exact kc_kc _ C 8
 ·rfl
theorem p8 {p : Nat → Prop} (h0 : p 0) (h1 : p 1) (h2 : p 2) (h3 : p 3) (h4 : p 4) (h5 : p 5) (h6 : p 6) (h7 : p 7) : ∀ i, i < 8 → p i := fun i hi =>
 match i, hi with
 | 0, _ => h0
 | 1, _ => h1
 | 2, _ => h2
 | 3, _ => h3
 | 4, _ => h4
 | 5, _ => h5
 | 6, _ => h6
 | 7, _ => h7
end Go.Proofs.YtablocpcgknmaaaGreatDoor
