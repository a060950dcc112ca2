/- What the listed variable gives the walks; slices of integers that came in. No condition. -/
import Derived.Test.YtemnidjggamciaaDoorW13
import Derived.LaidMore
import Derived.ProofKit
import Derived.OpenShut
import Derived.Stop.Joined
namespace Go.Proofs.YtemnidjggamciaaDoor
open Go.RowKit Go.ChangeShapes Go.WideShapes
set_option linter.unusedVariables false

abbrev laid1 {H : Type} : List (String × DataW H) := [("fedchat/num.limits", Rows.laid_fedchat_num_limits)]
theorem gLimits : Tryd.prog.globalNamed "fedchat/num.limits" = some 0 := by kernel_rfl
theorem tLimits : (Tryd.prog.globals[0]?).map (·.type) = some 43 := by kernel_rfl
theorem door_met (os : Os) (args : Array Value) : laidMetH Tryd.prog laid1 ((World.doorLaid Tryd.prog 14 os).forCall (fun _ _ => 0) ⟨#[], args, []⟩).memory :=
  laidMetH_of_parts3 (fuel := 8) (laidMet_of_run' 8 (by kernel_rfl) (by kernel_rfl)) (by kernel_rfl) (by kernel_rfl)
theorem of_laid {W : World} (h : laidMetH Tryd.prog laid1 W) : Lim W := by
  rw [MakeChecks.laidMetH_plain _ _ _ (by kernel_rfl)] at h
  obtain ⟨ps, ⟨g1, t1, cs1, f1, p1, q1, hg1, ht1, hv1, hd1, _⟩, _, _⟩ := h
  obtain rfl := Option.some.inj (gLimits.symm.trans hg1)
  obtain rfl := Option.some.inj (tLimits.symm.trans ht1)
  obtain ⟨xs, m1, hx0, hx1, hlen, hn3, hel⟩ := DataW.trod_array Tryd.underlying43 hd1
  have c3 : Tryd.prog.cellsOf 3 = 1 := by kernel_rfl
  have hl2 : cs1.toList.length = 2 := hlen.trans (by kernel_rfl)
  have h0 := hel 0 (by decide)
  have h1 := hel 1 (by decide)
  rw [c3] at h0 h1
  obtain ⟨l⟩ := cs1
  match l, hl2, xs, hn3 with
  | [c, d], _, [x0, x1], _ =>
    obtain ⟨k0, e0, f0, _⟩ := DataW.trod_int Tryd.underlying3 (show DataW.trod _ Tryd.prog W 0 _ false m1 3 [c] = some x0 from h0)
    obtain ⟨k1, e1, f2, _⟩ := DataW.trod_int Tryd.underlying3 (show DataW.trod _ Tryd.prog W 0 _ false m1 3 [d] = some x1 from h1)
    simp only [List.cons.injEq, and_true] at e0 e1
    subst e0 e1
    rw [f0, f2] at hx1
    simp [Rows.laid_fedchat_num_limits] at hx1
    obtain ⟨⟨rfl, rfl⟩, _⟩ := hx1
    have hc0 := World.var?_cell hg1 hv1 0
    have hc1 := World.var?_cell hg1 hv1 1
    exact ⟨World.block_lt_of_cell? W ⟨0, 0, none⟩ hc0, hc0, hc1⟩
/-- A slice of integers that came in: nil, or a row of `cap` cells with the numbers `zs`. -/
def IsRow (k : IntKind) (w : World) (a : Option Addr) (len cap : Nat) (zs : List Int) : Prop :=
  (a = none ∧ len = 0 ∧ cap = 0 ∧ zs = []) ∨
  ∃ x, a = some x ∧ len ≤ cap ∧ cap ≤ maxLen ∧ zs.length = cap ∧ (∀ i, i < zs.length → w.cell? (x.add i) = some (.int k (zs.getD i 0))) ∧ ∀ n ∈ zs, (Lit.int k n).wf = true
theorem ints_at {w : World} {x : Addr} {zs : List Int} (h : ∀ i, i < zs.length → w.cell? (x.add i) = some (.int .i64 (zs.getD i 0))) (h0 : 0 < zs.length) : ∃ b off, x = ⟨b, off, none⟩ ∧ ∀ i, i < zs.length → w.cell? ⟨b, off + i, none⟩ = some (.int .i64 (zs.getD i 0)) := by
  obtain ⟨b, off, sp⟩ := x
  have hf := h 0 h0
  have hsp : sp = none := by simpa [Addr.add] using World.cell?_spot hf
  subst hsp
  exact ⟨b, off, rfl, fun i hi => by have := h i hi; rwa [Addr.add_lit] at this⟩
theorem ints_of_row {w : World} {a : Option Addr} {len cap : Nat} {zs : List Int} (h : IsRow .i64 w a len cap zs) (hn : len ≤ 1000) : Ints w a len cap (zs.take len) := by
  rcases h with ⟨rfl, rfl, rfl, rfl⟩ | ⟨x, rfl, hl, hm, hz, hcell, hwz⟩
  · exact ⟨rfl, Nat.le_refl _, by omega, fun _ => ⟨rfl, rfl⟩, .inl rfl⟩
  · refine ⟨by rw [List.length_take]; omega, hl, by omega, (fun h => by cases h), ?_⟩
    rcases Nat.eq_zero_or_pos len with h0 | h0
    · exact .inl h0
    · obtain ⟨b, off, rfl, hc⟩ := ints_at hcell (by omega)
      refine .inr ⟨b, off, rfl, World.block_lt_of_cell? w ⟨b, off + 0, none⟩ (hc 0 (by omega)), fun i hi => ?_⟩
      rw [hc i (by omega)]
      congr 2
      rw [List.getD_eq_getElem?_getD, List.getD_eq_getElem?_getD, List.getElem?_take, if_pos hi]
theorem row_len {w : World} {a : Option Addr} {len cap : Nat} {zs : List Int} (h : IsRow .i64 w a len cap zs) : len ≤ 9223372036854775807 := by
  rcases h with ⟨_, rfl, _⟩ | ⟨x, _, hl, hm, _⟩
  · omega
  · unfold maxLen at hm; omega
theorem bd_of {n : Int} (h : (Lit.int .i64 n).wf = true) : -9223372036854775808 ≤ n ∧ n ≤ 9223372036854775807 := bounds_i64 h
end Go.Proofs.YtemnidjggamciaaDoor
