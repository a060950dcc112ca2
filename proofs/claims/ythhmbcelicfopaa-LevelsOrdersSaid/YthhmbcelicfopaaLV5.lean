/- The levels of a room, of the program and of the reference. -/
import Derived.Test.YthhmbcelicfopaaLV4
namespace Go.Proofs.Ythhmbcelicfopaa
open Go.RowKit
set_option linter.unusedVariables false

/-- The levels that an event bears. -/
abbrev lvCells (e : Ev) : List Value := [e.v17, e.v18, e.v19, e.v20, e.v21, e.v22, e.v23, e.v24, e.v25]
def Leveled (w : World) (n : Nat) (E : Nat → Ev) (LV : Nat → Lvl) : Prop := ∀ j, j < n → IsLv w (lvCells (E j)) (LV j)
theorem Leveled.below {w w1 : World} {n : Nat} {E : Nat → Ev} {LV : Nat → Lvl} (h : Leveled w n E LV) (hb : Below w.heap.size w w1) : Leveled w1 n E LV := fun j hj => (h j hj).below hb
theorem Evs.lvr {w : World} {b off n : Nat} {E : Nat → Ev} (h : Evs w b off n E) {j : Nat} (hj : j < n) : World.rangeAt w b (off + j * 29 + 10 + 7) (lvCells (E j)) := fun i v hv => by
  have hi : i < 9 := (List.getElem?_eq_some_iff.1 hv).1
  have := h.cell j hj (17 + i) v (by
    have : (enc (E j))[17 + i]? = (lvCells (E j))[i]? := by
      obtain rfl | rfl | rfl | rfl | rfl | rfl | rfl | rfl | rfl : i = 0 ∨ i = 1 ∨ i = 2 ∨ i = 3 ∨ i = 4 ∨ i = 5 ∨ i = 6 ∨ i = 7 ∨ i = 8 := by omega
      all_goals rfl
    rw [this]; exact hv)
  rw [show off + j * 29 + 10 + 7 + i = off + j * 29 + (17 + i) by omega]
  exact this
def CreatorPost (E : Nat → Ev) (n : Nat) (s : ByteArray) : Prop := (∃ i : Nat, FirstPost E 1 n i ∧ i < n ∧ s = (E i).snd) ∨ (FirstPost E 1 n (-1) ∧ s = ⟨#[]⟩)
def LevelsPost (E : Nat → Ev) (LV : Nat → Lvl) (n : Nat) (s : ByteArray) (L : Lvl) : Prop := (∃ i : Nat, FirstPost E 3 n i ∧ i < n ∧ L = LV i) ∨ (FirstPost E 3 n (-1) ∧ L = defLv s)
def OfP (w : World) (s : ByteArray) (L : Lvl) (e : Ending) (w' : World) : Prop := ∃ cs, e = .returned (.tuple #[.agg cs.toArray, .string s]) ∧ IsLv w' cs L ∧ Below w.heap.size w w'
/-- They are small enough to be copied. -/
def Bounded (n : Nat) (LV : Nat → Lvl) : Prop := ∀ j, j < n → (LV j).nU * 24 ≤ 140737488355328 ∧ (LV j).nK * 16 ≤ 140737488355328
end Go.Proofs.Ythhmbcelicfopaa
