/- Stores into a row of the call's own, one block. No condition on the program. -/
import Derived.Test.YtbkchcpfnoclhaaGreatG1
import Derived.Deep.MidRow
namespace Go.Proofs.YtbkchcpfnoclhaaGreat
open Go.RowKit
set_option linter.unusedVariables false

theorem grown_setCell (w : World) (a : Addr) (u : Value) : w.grownBy (w.setCell a u) (some a.block) :=
  ⟨rfl, rfl, rfl, by simp, fun k _ hk => heap_setCell_other w a k u (fun e => hk (by rw [e]))⟩
/-- Block `g`, that had at least `l` cells of the call's own, has been written; all others are as they were. -/
structure Wrote (w w' : World) (g l : Nat) : Prop where
  grow : w.grownBy w' (some g)
  there : w'.there g 0 l
theorem Wrote.start {w : World} {base : Nat} {e : TypeId} {n c : Nat} {g : Nat} {xs : List Value} {size : Nat} (h : w.ownsRow base e size (.slice (some ⟨g, 0, none⟩) n c) n xs) : Wrote w w g (n * size) :=
  ⟨⟨rfl, rfl, rfl, Nat.le_refl _, fun _ _ _ => rfl⟩, fun j hj => ⟨by
    rw [Nat.zero_add, h.cellAt j hj, List.getElem?_eq_getElem (by rw [h.1]; exact hj)]; rfl, by rw [Nat.zero_add]; exact h.frozenAt j⟩⟩
theorem Wrote.set {w w' : World} {g l : Nat} (h : Wrote w w' g l) (j : Nat) (u : Value) : Wrote w (w'.setCell ⟨g, j, none⟩ u) g l :=
  ⟨h.grow.trans (grown_setCell w' ⟨g, j, none⟩ u), World.there_setCells h.there g j [u]⟩
theorem Wrote.below {w0 w w' : World} {g l : Nat} (h : Wrote w w' g l) (hb : Below w0.heap.size w0 w) (hg : w0.heap.size ≤ g) : Below w0.heap.size w0 w' :=
  hb.grown h.grow hb.size (fun k hk => by cases hk; exact hg)
end Go.Proofs.YtbkchcpfnoclhaaGreat
