/- What the two listed tables give the walks. No condition. -/
import Derived.Test.YtablocpcgknmaaaGreatDoorRK15
import Derived.Test.YtablocpcgknmaaaGreatDoorRows
import Derived.LaidMore
import Derived.ProofKit
import Derived.OpenShut
import Derived.Stop.Joined
namespace Go.Proofs.YtablocpcgknmaaaGreatDoor
open Go.RowKit Go.ChangeShapes Go.WideShapes
set_option linter.unusedVariables false
set_option maxRecDepth 100000

abbrev laid2 {H : Type} : List (String × DataW H) := [("fedchat/content.uses", Rows.laid_fedchat_content_uses), ("fedchat/content.keeps", Rows.laid_fedchat_content_keeps)]
theorem gUs : Tryz.prog.globalNamed "fedchat/content.uses" = some 0 := by kernel_rfl
theorem gKp : Tryz.prog.globalNamed "fedchat/content.keeps" = some 1 := by kernel_rfl
theorem tUs : (Tryz.prog.globals[0]?).map (·.type) = some 119 := by kernel_rfl
theorem tKp : (Tryz.prog.globals[1]?).map (·.type) = some 119 := by kernel_rfl
theorem door_met (os : Os) (args : Array Value) : laidMetH Tryz.prog laid2 ((World.doorLaid Tryz.prog 24 os).forCall (fun _ _ => 0) ⟨#[], args, []⟩).memory :=
 laidMetH_of_parts3 (fuel := 8) (laidMet_of_run' 8 (by kernel_rfl) (by kernel_rfl)) (by kernel_rfl) (by kernel_rfl)
section
variable {H : Type} {enc : TypeId × Value → H}
def rowN (l : List Int) : DataW H := .agg (l.map fun z => .lit (.int .i64 z))
def rowT (l : List ByteArray) : DataW H := .agg (l.map fun s => .lit (.string s.data.toList))
theorem rowN15 {W : World} {base : Nat} {sp : Nat → Bool} {held : Bool} {f : Nat} {cs : List Value} {bl : List Int} {p : List MemPlace} (h : DataW.trod enc Tryz.prog W base sp held f 119 cs = some (rowN bl, p)) : ∀ k, k < 15 → cs[k]? = some (.int .i64 (bl.getD k 0)) := by
 obtain ⟨xs, m, rfl, hx, hlen, hn, hel⟩ := DataW.trod_array Tryz.underlying119 h
 unfold rowN at hx
 simp only [Prod.mk.injEq, DataW.agg.injEq] at hx
 have hbl : bl.length = 15 := by
  have := congrArg List.length hx.1
  rw [List.length_map, List.length_map, hn] at this
  exact this
 intro k hk
 have c3 : Tryz.prog.cellsOf 3 = 1 := by kernel_rfl
 have hk' := hel k hk
 rw [c3, Nat.mul_one, List.getElem?_eq_getElem (show k < xs.length by omega)] at hk'
 obtain ⟨b, e, e2, _⟩ := DataW.trod_int Tryz.underlying3 hk'
 have h1 : (bl.map fun b => (DataW.lit (.int .i64 b) : DataW H))[k]? = (xs.map (·.1))[k]? := by rw [hx.1]
 rw [List.getElem?_map, List.getElem?_map, List.getElem?_eq_getElem (show k < bl.length by omega), List.getElem?_eq_getElem (show k < xs.length by omega), e2] at h1
 simp only [Option.map_some, Option.some.injEq, DataW.lit.injEq, Lit.int.injEq, true_and] at h1
 have h2 : ((cs.drop k).take 1)[0]? = cs[k]? := by
  rw [List.getElem?_take_of_lt (by decide), List.getElem?_drop, Nat.add_zero]
 rw [← h2, e, List.getD_eq_getElem?_getD, List.getElem?_eq_getElem (show k < bl.length by omega), Option.getD_some, h1]
 rfl
end
theorem of_laid {W : World} (h : laidMetH Tryz.prog laid2 W) : Lt W := by
 rw [MakeChecks.laidMetH_plain _ _ _ (by kernel_rfl)] at h
 obtain ⟨ps, ⟨g2, t2, cs2, f2, p2, q2, hg2, ht2, hv2, hd2, gg2, _⟩, _, _⟩ := h
 obtain ⟨g3, t3, cs3, f3, p3, q3, hg3, ht3, hv3, hd3, _⟩ := gg2
 obtain rfl := Option.some.inj (gUs.symm.trans hg2)
 obtain rfl := Option.some.inj (tUs.symm.trans ht2)
 obtain rfl := Option.some.inj (gKp.symm.trans hg3)
 obtain rfl := Option.some.inj (tKp.symm.trans ht3)
 have k2 := rowN15 (bl := usL) hd2
 have k3 := rowN15 (bl := kpL) hd3
 have r2 : ∀ j, j < 15 → W.cell? ⟨0, j, none⟩ = some (.int .i64 (usL.getD j 0)) := fun j hj => by
  have := World.var?_cell hg2 hv2 j
  rw [this, ← Array.getElem?_toList]; exact k2 j hj
 have r3 : ∀ j, j < 15 → W.cell? ⟨1, j, none⟩ = some (.int .i64 (kpL.getD j 0)) := fun j hj => by
  have := World.var?_cell hg3 hv3 j
  rw [this, ← Array.getElem?_toList]; exact k3 j hj
 exact ⟨World.block_lt_of_cell? W ⟨1, 0, none⟩ (r3 0 (by omega)), r2, r3⟩
end Go.Proofs.YtablocpcgknmaaaGreatDoor
