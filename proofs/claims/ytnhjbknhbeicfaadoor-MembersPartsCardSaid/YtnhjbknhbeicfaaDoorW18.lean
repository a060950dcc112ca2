/- What the two listed tables give the walks. No condition. -/
import Derived.Test.YtnhjbknhbeicfaaDoorW9
import Derived.LaidMore
import Derived.ProofKit
import Derived.OpenShut
import Derived.Stop.Joined
namespace Go.Proofs.YtnhjbknhbeicfaaDoor
open Go.RowKit Go.ChangeShapes Go.WideShapes
set_option linter.unusedVariables false

abbrev laid2 {H : Type} : List (String × DataW H) := [("fedchat/members.ownMoves", Rows.laid_fedchat_members_ownMoves), ("fedchat/members.otherMoves", Rows.laid_fedchat_members_otherMoves)]
theorem gOwn : Tryd.prog.globalNamed "fedchat/members.ownMoves" = some 0 := by kernel_rfl
theorem gOth : Tryd.prog.globalNamed "fedchat/members.otherMoves" = some 1 := by kernel_rfl
theorem tOwn : (Tryd.prog.globals[0]?).map (·.type) = some 64 := by kernel_rfl
theorem tOth : (Tryd.prog.globals[1]?).map (·.type) = some 64 := by kernel_rfl
theorem door_met (os : Os) (args : Array Value) : laidMetH Tryd.prog laid2 ((World.doorLaid Tryd.prog 29 os).forCall (fun _ _ => 0) ⟨#[], args, []⟩).memory :=
  laidMetH_of_parts3 (fuel := 8) (laidMet_of_run' 8 (by kernel_rfl) (by kernel_rfl)) (by kernel_rfl) (by kernel_rfl)
section
variable {H : Type} {enc : TypeId × Value → H}
def rowB (bl : List Bool) : DataW H := .agg (bl.map fun b => .lit (.bool b))
theorem row5 {W : World} {base : Nat} {sp : Nat → Bool} {held : Bool} {f : Nat} {cs : List Value} {bl : List Bool} {p : List MemPlace} (h : DataW.trod enc Tryd.prog W base sp held f 63 cs = some (rowB bl, p)) : cs.length = 5 ∧ bl.length = 5 ∧ ∀ k, k < 5 → cs[k]? = some (.bool (bl.getD k false)) := by
  obtain ⟨xs, m, rfl, hx, hlen, hn, hel⟩ := DataW.trod_array Tryd.underlying63 h
  unfold rowB at hx
  simp only [Prod.mk.injEq, DataW.agg.injEq] at hx
  have hbl : bl.length = 5 := by
    have := congrArg List.length hx.1
    rw [List.length_map, List.length_map, hn] at this
    exact this
  refine ⟨hlen.trans (by kernel_rfl), hbl, fun k hk => ?_⟩
  have c4 : Tryd.prog.cellsOf 4 = 1 := by kernel_rfl
  have hk' := hel k hk
  rw [c4, Nat.mul_one, List.getElem?_eq_getElem (show k < xs.length by omega)] at hk'
  obtain ⟨b, e, e2⟩ := DataW.trod_bool Tryd.underlying4 hk'
  have h1 : (bl.map fun b => (DataW.lit (.bool b) : DataW H))[k]? = (xs.map (·.1))[k]? := by rw [hx.1]
  rw [List.getElem?_map, List.getElem?_map, List.getElem?_eq_getElem (show k < bl.length by omega), List.getElem?_eq_getElem (show k < xs.length by omega), e2] at h1
  simp only [Option.map_some, Option.some.injEq, DataW.lit.injEq, Lit.bool.injEq] at h1
  have h2 : ((cs.drop k).take 1)[0]? = cs[k]? := by
    rw [List.getElem?_take_of_lt (by decide), List.getElem?_drop, Nat.add_zero]
  rw [← h2, e, List.getD_eq_getElem?_getD, List.getElem?_eq_getElem (show k < bl.length by omega), Option.getD_some, h1]
  rfl
theorem tab25 {W : World} {base : Nat} {sp : Nat → Bool} {held : Bool} {f : Nat} {cs : List Value} {rows : List (List Bool)} {p : List MemPlace} (h : DataW.trod enc Tryd.prog W base sp held f 64 cs = some (.agg (rows.map rowB), p)) : ∀ i k, i < 5 → k < 5 → cs[i * 5 + k]? = some (.bool ((rows.getD i []).getD k false)) := by
  obtain ⟨xs, m, rfl, hx, hlen, hn, hel⟩ := DataW.trod_array Tryd.underlying64 h
  simp only [Prod.mk.injEq, DataW.agg.injEq] at hx
  have hrl : rows.length = 5 := by
    have := congrArg List.length hx.1
    rw [List.length_map, List.length_map, hn] at this
    exact this
  intro i k hi hk
  have c63 : Tryd.prog.cellsOf 63 = 5 := by kernel_rfl
  have hi' := hel i hi
  have h1 : (rows.map (rowB (H := H)))[i]? = (xs.map (·.1))[i]? := by rw [hx.1]
  rw [List.getElem?_map, List.getElem?_map, List.getElem?_eq_getElem (show i < rows.length by omega), List.getElem?_eq_getElem (show i < xs.length by omega)] at h1
  simp only [Option.map_some, Option.some.injEq] at h1
  rw [c63, List.getElem?_eq_getElem (show i < xs.length by omega), show xs[i] = (rowB rows[i], xs[i].2) from Prod.ext h1.symm rfl] at hi'
  have h2 := (row5 hi').2.2 k hk
  rw [List.getElem?_take_of_lt hk, List.getElem?_drop] at h2
  rw [h2, List.getD_eq_getElem?_getD (l := rows), List.getElem?_eq_getElem (show i < rows.length by omega)]
  rfl
end
def ownR : List (List Bool) := [[false, true, true, true, false], [false, false, false, false, false], [true, false, true, false, false], [true, true, true, true, false], [false, false, false, false, false]]
def othR : List (List Bool) := [[false, true, true, true, true], [true, true, true, false, false], [false, false, false, false, false], [false, false, false, false, false], [true, true, true, true, true]]
theorem own_rows_eq : ∀ i, i < 5 → ∀ k, k < 5 → (ownR.getD i []).getD k false = ownL.getD (i * 5 + k) false := by decide
theorem oth_rows_eq : ∀ i, i < 5 → ∀ k, k < 5 → (othR.getD i []).getD k false = othL.getD (i * 5 + k) false := by decide
theorem of_laid {W : World} (h : laidMetH Tryd.prog laid2 W) : Mv W := by
  rw [MakeChecks.laidMetH_plain _ _ _ (by kernel_rfl)] at h
  obtain ⟨ps, ⟨g1, t1, cs1, f1, p1, q1, hg1, ht1, hv1, hd1, gg, _⟩, _, _⟩ := h
  obtain ⟨g2, t2, cs2, f2, p2, q2, hg2, ht2, hv2, hd2, _⟩ := gg
  obtain rfl := Option.some.inj (gOwn.symm.trans hg1)
  obtain rfl := Option.some.inj (tOwn.symm.trans ht1)
  obtain rfl := Option.some.inj (gOth.symm.trans hg2)
  obtain rfl := Option.some.inj (tOth.symm.trans ht2)
  have k1 := tab25 (rows := ownR) hd1
  have k2 := tab25 (rows := othR) hd2
  have q1 : ∀ j, j < 25 → W.cell? ⟨0, j, none⟩ = some (.bool (ownL.getD j false)) := fun j hj => by
    have h1 := k1 (j / 5) (j % 5) (by omega) (by omega)
    rw [own_rows_eq _ (by omega) _ (by omega), show j / 5 * 5 + j % 5 = j by omega] at h1
    have := World.var?_cell hg1 hv1 j
    rw [this, ← Array.getElem?_toList]; exact h1
  have q2 : ∀ j, j < 25 → W.cell? ⟨1, j, none⟩ = some (.bool (othL.getD j false)) := fun j hj => by
    have h1 := k2 (j / 5) (j % 5) (by omega) (by omega)
    rw [oth_rows_eq _ (by omega) _ (by omega), show j / 5 * 5 + j % 5 = j by omega] at h1
    have := World.var?_cell hg2 hv2 j
    rw [this, ← Array.getElem?_toList]; exact h1
  exact ⟨World.block_lt_of_cell? W ⟨1, 0, none⟩ (q2 0 (by omega)), q1, q2⟩
end Go.Proofs.YtnhjbknhbeicfaaDoor
