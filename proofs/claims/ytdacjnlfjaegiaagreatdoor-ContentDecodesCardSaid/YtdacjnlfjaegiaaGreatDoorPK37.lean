/- What is left of a content: plain facts. No condition. -/
import Derived.Test.YtdacjnlfjaegiaaGreatDoorPK20
import Derived.Test.YtdacjnlfjaegiaaGreatDoorPK25
import Derived.Test.YtdacjnlfjaegiaaGreatDoorPK18
namespace Go.Proofs.YtdacjnlfjaegiaaGreatDoor
open Go Go.RowKit
set_option linter.unusedVariables false
set_option linter.unusedSimpArgs false
set_option maxRecDepth 100000

theorem sameN_refl : ∀ l : List Int, sameN l l = true
  | [] => rfl
  | x :: r => by
    show (decide (x = x) && sameN r r) = true
    rw [sameN_refl r, decide_eq_true rfl]; rfl
theorem sameC_refl (C : Cn) : sameC C C = true := by
  obtain ⟨tx, n, tg, th, via, al, dn, us, ks, d, x3, x4, x5, x6, x7, x8⟩ := C
  unfold sameC sameL
  simp [sameN_refl]
theorem same23r (C : Cn) (a a' : Ads) (w : World) (h : IsC w C a) (h' : IsC w C a') : Calls Tryz.prog 23 #[.agg (ccs C a).toArray, .agg (ccs C a').toArray] w fun e w' => e = .returned (.bool true) ∧ Below w.heap.size w w' := by
  have := same23 C C a a' w h h'
  rwa [sameC_refl] at this
end Go.Proofs.YtdacjnlfjaegiaaGreatDoor
