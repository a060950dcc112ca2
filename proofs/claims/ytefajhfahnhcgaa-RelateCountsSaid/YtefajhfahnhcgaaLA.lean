/- Levels: what they are, the level of a user (program and reference), the default levels, copies. -/
import Derived.Test.YtefajhfahnhcgaaE1
import Derived.Test.YtefajhfahnhcgaaG5
import Derived.Laws.ResultCell
namespace Go.Proofs.Ytefajhfahnhcgaa
open Go.RowKit
set_option linter.unusedVariables false

theorem size28 : (Try.prog.info? 28).map (·.size) = some 9 := by kernel_rfl
theorem three_old (w : World) (A B C : Obj) : (((w.alloc A).alloc B).alloc C).heap[w.heap.size]? = some A := by
  rw [heap_alloc_old _ _ (by simp; omega), heap_alloc2_old]

def isU (U : Nat → ByteArray × Int) (u : ByteArray) (j : Nat) : Bool := ((U j).1.toList == u.toList)
def UserPost (U : Nat → ByteArray × Int) (u : ByteArray) (n : Nat) (d r : Int) : Prop :=
  (∃ k, k < n ∧ isU U u k = true ∧ (∀ j, j < k → isU U u j = false) ∧ r = (U k).2) ∨ ((∀ j, j < n → isU U u j = false) ∧ r = d)

theorem UserPost.one {U : Nat → ByteArray × Int} {u : ByteArray} {n : Nat} {d r s : Int} (h : UserPost U u n d r) (k : UserPost U u n d s) : r = s := by
  rcases h with ⟨i, hi, gi, li, rfl⟩ | ⟨hn, rfl⟩ <;> rcases k with ⟨j, hj, gj, lj, rfl⟩ | ⟨kn, rfl⟩
  · rcases Nat.lt_trichotomy i j with h | h | h
    · rw [lj i h] at gi; cases gi
    · rw [h]
    · rw [li j h] at gj; cases gj
  · rw [kn i hi] at gi; cases gi
  · rw [hn j hj] at gj; cases gj
  · rfl
structure Lvl where
  nU : Nat
  U : Nat → ByteArray × Int
  nK : Nat
  K : Nat → Int × Int
  d : Int
  x3 : Int
  x4 : Int
  x5 : Int
  x6 : Int
  x7 : Int
  x8 : Int
def rowU (U : Nat → ByteArray × Int) (j : Nat) : List Value := [.string (U j).1, .int .i64 (U j).2]
def rowK (K : Nat → Int × Int) (j : Nat) : List Value := [.int .i64 (K j).1, .int .i64 (K j).2]
/-- The cells of levels whose users lie at `uA`, its kinds at `kA`. -/
abbrev lvc (uA : Option Addr) (nU uC : Nat) (kA : Option Addr) (nK kC : Nat) (d x3 x4 x5 x6 x7 x8 : Int) : List Value := [.slice uA nU uC, .slice kA nK kC, .int .i64 d, .int .i64 x3, .int .i64 x4, .int .i64 x5, .int .i64 x6, .int .i64 x7, .int .i64 x8]
/-- The cells `cs` are the levels `L`. -/
def IsLv (w : World) (cs : List Value) (L : Lvl) : Prop :=
  ∃ uA uC kA kC, cs = lvc uA L.nU uC kA L.nK kC L.d L.x3 L.x4 L.x5 L.x6 L.x7 L.x8 ∧ Rws w uA L.nU uC 2 (rowU L.U) ∧ Rws w kA L.nK kC 2 (rowK L.K)
theorem IsLv.below {w w1 : World} {cs : List Value} {L : Lvl} (h : IsLv w cs L) (hb : Below w.heap.size w w1) : IsLv w1 cs L := by
  obtain ⟨uA, uC, kA, kC, e, h1, h2⟩ := h
  exact ⟨uA, uC, kA, kC, e, h1.below hb, h2.below hb⟩
theorem Rws.user {w : World} {A : Option Addr} {n c : Nat} {U : Nat → ByteArray × Int} (h : Rws w A n c 2 (rowU U)) {j : Nat} (hj : j < n) :
    ∃ b off, A = some ⟨b, off, none⟩ ∧ w.cell? ⟨b, off + j * 2, none⟩ = some (.string (U j).1) ∧ w.cell? ⟨b, off + j * 2 + 1, none⟩ = some (.int .i64 (U j).2) := by
  obtain ⟨b, off, e, _, hr⟩ := h.get hj
  exact ⟨b, off, e, hr 0 _ rfl, hr 1 _ rfl⟩

/-- The box of levels, and what stands in it. -/
structure Box (w : World) (t : Nat) (cs : List Value) : Prop where
  lt : t < w.heap.size
  at_ : ∀ (i : Nat) (v : Value), cs[i]? = some v → w.cell? ⟨t, i, none⟩ = some v
theorem Box.below {w w1 : World} {t : Nat} {cs : List Value} (h : Box w t cs) (hb : Below w.heap.size w w1) : Box w1 t cs :=
  ⟨Nat.lt_of_lt_of_le h.lt hb.size, fun j v hv => (hb.cell (p := ⟨t, j, none⟩) h.lt).trans (h.at_ j v hv)⟩
theorem box_new (w : World) (cs : List Value) (T : TypeId) : Box (w.alloc (.cells cs.toArray T)) w.heap.size cs :=
  ⟨by simp, fun j v hv => by rw [cell_of_row _ _ _ _ _ _ (heap_alloc_new w _), List.getElem?_toArray]; exact hv⟩


end Go.Proofs.Ytefajhfahnhcgaa
