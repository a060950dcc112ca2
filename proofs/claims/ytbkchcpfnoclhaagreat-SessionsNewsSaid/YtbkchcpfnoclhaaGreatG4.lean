/- slices.Clone at a struct: its text is walked once for each instance; this is what it leaves. -/
import Derived.Test.YtbkchcpfnoclhaaGreatG3
namespace Go.Proofs.YtbkchcpfnoclhaaGreat
open Go.RowKit
set_option linter.unusedVariables false
theorem clone_nil (w : World) (e : TypeId) (sz : Nat) (L : Nat → List Value) : CopyR w w e sz 0 L none 0 := ⟨World.ownsRow_nil w _ e sz, Below.refl _ _⟩
theorem clone_grew {w w' : World} {e : TypeId} {sz n : Nat} {L : Nat → List Value} {v' : Value} (h : Grew (w.alloc (.cells #[] e)) w' w.heap.size e sz (.slice (some ⟨w.heap.size, 0, none⟩) 0 0) v' (0 + n) ([] ++ flat n L)) :
    ∃ A c, v' = .slice A n c ∧ CopyR w w' e sz n L A c := by
  have ho := h.own
  rw [Nat.zero_add, List.nil_append] at ho
  obtain ⟨A, c, rfl⟩ := own_slice ho
  exact ⟨A, c, rfl, ho, Grew.below (w0 := w) h ((Below.refl _ w).alloc (Nat.le_refl _) _) (World.ownsRow_made w #[] 0 (Nat.le_refl _) (by decide) (by simp))⟩
end Go.Proofs.YtbkchcpfnoclhaaGreat
