/- Steps of a region that draws its order: a new block, a store of a whole row. No condition on the program. -/
import Derived.Test.YtbkchcpfnoclhaaGreatG5
namespace Go.Proofs.YtbkchcpfnoclhaaGreat
open Go.RowKit
set_option linter.unusedVariables false

section
variable {P : Program} {w : World}
theorem wp_alloc_new {o : Oper} {a : Act} {K : Act → World → Prop} {Q : Exit → Act → World → Prop} (T : TypeId) (ho : o.op = .alloc T) (cs : List Value)
    (hz : ∀ w : World, (Instr.alloc T true (.tuple #[])).run P w = .ok (.pointer (some ⟨w.heap.size, 0, none⟩)) (w.alloc (.cells cs.toArray T)))
    (h : ∀ t w', Blk w' t cs T → Below w.heap.size w w' → w.heap.size ≤ t → K (a.put o.dst (.pointer (some ⟨t, 0, none⟩))) w') : o.wp P a w K Q := by
  unfold Oper.wp execOp
  simp only [ho, Sem.run_bind, Sem.run_pure, Result.andThen_ok, hz]
  exact h _ _ (blk_new w cs T) ((Below.refl _ w).alloc (Nat.le_refl _) _) (Nat.le_refl _)
theorem step_alloc_new {ops : Array Oper} {o : Oper} {a : Act} {K : Act → World → Prop} {Q : Exit → Act → World → Prop} {E : Prop} (hgd : o.guard = none) (T : TypeId) (ho : o.op = .alloc T) (cs : List Value)
    (hz : ∀ w : World, (Instr.alloc T true (.tuple #[])).run P w = .ok (.pointer (some ⟨w.heap.size, 0, none⟩)) (w.alloc (.cells cs.toArray T)))
    (h : ∀ t w', Blk w' t cs T → Below w.heap.size w w' → w.heap.size ≤ t → K (a.put o.dst (.pointer (some ⟨t, 0, none⟩))) w') :
    if Region.wanted o (yielded ops a.tmps) = true then Oper.wp P o a w K Q else E := by
  have hw : Region.wanted o (yielded ops a.tmps) = true := by simp [Region.wanted, hgd]
  rw [if_pos hw]
  exact wp_alloc_new T ho cs hz h
/-- What a store into block `t` leaves. -/
structure Put (w w' : World) (t : Nat) : Prop where
  oth : ∀ t' cs' T', t' ≠ t → Blk w t' cs' T' → Blk w' t' cs' T'
  bel : ∀ B, B ≤ t → Below B w w'
theorem put_all (w : World) (t : Nat) (vs : List Value) : Put w (w.setCells t 0 vs) t :=
  ⟨fun t' cs' T' hne hb => hb.otherAll t 0 vs hne, fun B hB => below_setAll hB vs 0 w (Below.refl B w)⟩
theorem step_store_blk {ops : Array Oper} {o : Oper} {a : Act} {K : Act → World → Prop} {Q : Exit → Act → World → Prop} {E : Prop} (hgd : o.guard = none) (ty : TypeId) (x y : Operand) (ho : o.op = .store ty x y)
    (t : Nat) (cs : List Value) (T : TypeId) (vs : List Value) (hx : a.eval x = .pointer (some ⟨t, 0, none⟩)) (hy : a.eval y = .agg vs.toArray) (hb : Blk w t cs T) (hl : vs.length = cs.length)
    (hi : (P.info? ty).map (·.size) = some vs.length) (h1 : vs.toArray.all (·.oneCell') = true)
    (h : ∀ w', Blk w' t vs T → Put w w' t → K (a.put o.dst undef) w') :
    if Region.wanted o (yielded ops a.tmps) = true then Oper.wp P o a w K Q else E := by
  have hw : Region.wanted o (yielded ops a.tmps) = true := by simp [Region.wanted, hgd]
  rw [if_pos hw]
  exact wp_store_mid ty x y ho t 0 vs.toArray hx hy (hb.there (by simp [hl])) (by simpa using hi) h1 (h _ (hb.setAll vs hl) (put_all w t vs))
end
end Go.Proofs.YtbkchcpfnoclhaaGreat
