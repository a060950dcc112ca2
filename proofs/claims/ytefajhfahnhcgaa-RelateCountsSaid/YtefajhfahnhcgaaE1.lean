/- The events of a list: their cells. No condition on the events. -/
import Derived.Test.YtefajhfahnhcgaaRows
import Derived.WalkKit
import Derived.WalkSpells
import Derived.WalkLawsBesides
import Derived.Lib.Hide
import Derived.Deep.LoopGhost
import Derived.Deep.Draws
import Derived.Lib.SliceRun
namespace Go.Proofs.Ytefajhfahnhcgaa
open Go.RowKit
set_option linter.unusedVariables false

/-- An event, by its cells. -/
structure Ev where
  v0 : Value
  v1 : Value
  snd : ByteArray
  kd : Int
  v4 : Value
  key : ByteArray
  v6 : Value
  v7 : Value
  v8 : Value
  v9 : Value
  v10 : Value
  n : Int
  v12 : Value
  v13 : Value
  v14 : Value
  aA : Option Addr
  lA : Nat
  cA : Nat
  v16 : Value
  v17 : Value
  v18 : Value
  v19 : Value
  v20 : Value
  v21 : Value
  v22 : Value
  v23 : Value
  v24 : Value
  v25 : Value
  v26 : Value
  v27 : Value
  v28 : Value

def enc (e : Ev) : List Value := [e.v0, e.v1, .string e.snd, .int .i64 e.kd, e.v4, .string e.key, e.v6, e.v7, e.v8, e.v9, e.v10, .int .i64 e.n, e.v12, e.v13, e.v14, .slice e.aA e.lA e.cA, e.v16, e.v17, e.v18, e.v19, e.v20, e.v21, e.v22, e.v23, e.v24, e.v25, e.v26, e.v27, e.v28]
theorem enc_len (e : Ev) : (enc e).length = 29 := rfl
/-- The events `E 0`, `E 1`, .. lie one behind the other. -/
structure Evs (w : World) (b off n : Nat) (E : Nat → Ev) : Prop where
  lt : b < w.heap.size
  big : n ≤ 9223372036854775807
  cell : ∀ j, j < n → ∀ i v, (enc (E j))[i]? = some v → w.cell? ⟨b, off + j * 29 + i, none⟩ = some v
theorem Evs.below {w w1 : World} {b off n : Nat} {E : Nat → Ev} (h : Evs w b off n E) (hb : Below w.heap.size w w1) : Evs w1 b off n E :=
  ⟨Nat.lt_of_lt_of_le h.lt hb.size, h.big, fun j hj i v hi => (hb.cell (p := ⟨b, off + j * 29 + i, none⟩) h.lt).trans (h.cell j hj i v hi)⟩
theorem Evs.snd {w : World} {b off n : Nat} {E : Nat → Ev} (h : Evs w b off n E) {j : Nat} (hj : j < n) : w.cell? ⟨b, off + j * 29 + 2, none⟩ = some (.string (E j).snd) := h.cell j hj 2 _ rfl
theorem Evs.kd {w : World} {b off n : Nat} {E : Nat → Ev} (h : Evs w b off n E) {j : Nat} (hj : j < n) : w.cell? ⟨b, off + j * 29 + 3, none⟩ = some (.int .i64 (E j).kd) := h.cell j hj 3 _ rfl
theorem Evs.key {w : World} {b off n : Nat} {E : Nat → Ev} (h : Evs w b off n E) {j : Nat} (hj : j < n) : w.cell? ⟨b, off + j * 29 + 5, none⟩ = some (.string (E j).key) := h.cell j hj 5 _ rfl
theorem Evs.num {w : World} {b off n : Nat} {E : Nat → Ev} (h : Evs w b off n E) {j : Nat} (hj : j < n) : w.cell? ⟨b, off + j * 29 + 11, none⟩ = some (.int .i64 (E j).n) := h.cell j hj 11 _ rfl
theorem Evs.alw {w : World} {b off n : Nat} {E : Nat → Ev} (h : Evs w b off n E) {j : Nat} (hj : j < n) : w.cell? ⟨b, off + j * 29 + 15, none⟩ = some (.slice (E j).aA (E j).lA (E j).cA) := h.cell j hj 15 _ rfl

/-- A list of events, empty or not. -/
def EvsA (w : World) (A : Option Addr) (n : Nat) (E : Nat → Ev) : Prop := n = 0 ∨ ∃ b off, A = some ⟨b, off, none⟩ ∧ Evs w b off n E
theorem EvsA.below {w w1 : World} {A : Option Addr} {n : Nat} {E : Nat → Ev} (h : EvsA w A n E) (hb : Below w.heap.size w w1) : EvsA w1 A n E :=
  h.imp id fun ⟨b, off, e, h⟩ => ⟨b, off, e, h.below hb⟩
theorem EvsA.at_ {w : World} {A : Option Addr} {n : Nat} {E : Nat → Ev} (h : EvsA w A n E) {k : Nat} (hk : k < n) : ∃ b off, A = some ⟨b, off, none⟩ ∧ Evs w b off n E := by
  rcases h with rfl | h
  · omega
  · exact h


end Go.Proofs.Ytefajhfahnhcgaa
