/- members.Move: which memberships can be reached, by the two listed tables. Condition: the tables stand as the program lays them. -/
import Derived.Test.YtnhjbknhbeicfaaDoorW1
namespace Go.Proofs.YtnhjbknhbeicfaaDoor
open Go.RowKit
set_option linter.unusedVariables false
set_option linter.unusedSimpArgs false

def ownL : List Bool := [false, true, true, true, false, false, false, false, false, false, true, false, true, false, false, true, true, true, true, false, false, false, false, false, false]
def othL : List Bool := [false, true, true, true, true, true, true, true, false, false, false, false, false, false, false, false, false, false, false, false, true, true, true, true, true]
structure Mv (w : World) : Prop where
  lt : 1 < w.heap.size
  own : ∀ j, j < 25 → w.cell? ⟨0, j, none⟩ = some (.bool (ownL.getD j false))
  oth : ∀ j, j < 25 → w.cell? ⟨1, j, none⟩ = some (.bool (othL.getD j false))
theorem Mv.below {w w1 : World} (h : Mv w) (hb : Below w.heap.size w w1) : Mv w1 := by
  have h1 := h.lt
  exact ⟨Nat.lt_of_lt_of_le h.lt hb.size, fun j hj => (hb.cell (p := ⟨0, j, none⟩) (show 0 < w.heap.size by omega)).trans (h.own j hj), fun j hj => (hb.cell (p := ⟨1, j, none⟩) h1).trans (h.oth j hj)⟩
def mv (f t : Int) (s : Bool) : Bool := if f < 0 ∨ 4 < f ∨ t < 0 ∨ 4 < t then false else if s then ownL.getD (t.toNat * 5 + f.toNat) false else othL.getD (t.toNat * 5 + f.toNat) false
theorem mv_out {f t : Int} (s : Bool) (h : f < 0 ∨ 4 < f ∨ t < 0 ∨ 4 < t) : mv f t s = false := by unfold mv; rw [if_pos h]
theorem mv_in {f t : Nat} (s : Bool) (hf : f < 5) (ht : t < 5) : mv (f : Int) (t : Int) s = if s then ownL.getD (t * 5 + f) false else othL.getD (t * 5 + f) false := by
  unfold mv
  rw [if_neg (by omega), Int.toNat_natCast, Int.toNat_natCast]
set_option maxRecDepth 100000 in
set_option maxHeartbeats 4000000 in
theorem move18 (f t : Int) (s : Bool) (w : World) (hM : Mv w) : Calls Tryd.prog 18 #[.int .i64 f, .int .i64 t, .bool s] w fun e w' => e = .returned (.bool (mv f t s)) ∧ w = w' := by
  have HM := Lib.hid hM
  clear hM
  by_cases f1 : f < 0
  · have HE := Lib.hid (mv_out (f := f) (t := t) s (.inl f1))
    go_enter Tryd.func18, Tryd.ntmps18
    go_wp2
    go_ret
    exact ⟨ret_bool HE.out.symm, rfl⟩
  by_cases f2 : 4 < f
  · have HE := Lib.hid (mv_out (f := f) (t := t) s (.inr (.inl f2)))
    go_enter Tryd.func18, Tryd.ntmps18
    go_wp2
    go_ret
    exact ⟨ret_bool HE.out.symm, rfl⟩
  by_cases t1 : t < 0
  · have HE := Lib.hid (mv_out (f := f) (t := t) s (.inr (.inr (.inl t1))))
    go_enter Tryd.func18, Tryd.ntmps18
    go_wp2
    go_ret
    exact ⟨ret_bool HE.out.symm, rfl⟩
  by_cases t2 : 4 < t
  · have HE := Lib.hid (mv_out (f := f) (t := t) s (.inr (.inr (.inr t2))))
    go_enter Tryd.func18, Tryd.ntmps18
    go_wp2
    go_ret
    exact ⟨ret_bool HE.out.symm, rfl⟩
  obtain ⟨f, rfl⟩ := Int.eq_ofNat_of_zero_le (show 0 ≤ f by omega)
  obtain ⟨t, rfl⟩ := Int.eq_ofNat_of_zero_le (show 0 ≤ t by omega)
  have hf : f < 5 := by omega
  have ht : t < 5 := by omega
  have HE := Lib.hid (mv_in s hf ht)
  have hi1 : (f : Int) < 5 := by omega
  have hi2 : (t : Int) < 5 := by omega
  have hi3 : (0 : Int) ≤ (f : Int) := by omega
  have hi4 : (0 : Int) ≤ (t : Int) := by omega
  cases s
  · have k := HM.out.oth (t * 5 + f) (by omega)
    rw [if_neg (by decide)] at HE
    generalize othL.getD (t * 5 + f) false = r at *
    go_enter Tryd.func18, Tryd.ntmps18
    go_wp2
    go_ret
    exact ⟨ret_bool HE.out.symm, rfl⟩
  · have k := HM.out.own (t * 5 + f) (by omega)
    rw [if_pos rfl] at HE
    generalize ownL.getD (t * 5 + f) false = r at *
    go_enter Tryd.func18, Tryd.ntmps18
    go_wp2
    go_ret
    exact ⟨ret_bool HE.out.symm, rfl⟩
end Go.Proofs.YtnhjbknhbeicfaaDoor
