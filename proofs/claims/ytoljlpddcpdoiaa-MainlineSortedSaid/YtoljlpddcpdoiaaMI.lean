/- A map from int to int of the call's own: made, written, read, asked. No condition on the keys. -/
import Derived.Test.YtoljlpddcpdoiaaG5
import Derived.Test.YtoljlpddcpdoiaaRows
import Derived.OwnWalk
import Derived.Maps.OwnOps
import Derived.Maps.OwnSet
import Derived.Maps.Views
namespace Go.Proofs.Ytoljlpddcpdoiaa
open Go.RowKit Go.Maps Go.Proofs
set_option linter.unusedVariables false

theorem mi_key : Keyed Try.prog 3 := int_keyed Try.underlying3
theorem mi_zero (w : World) : (zeroValue 3).run Try.prog w = .ok (.int .i64 0) w := by kernel_rfl
theorem mi_info : Try.prog.underlying 53 = some (.map 3 3) := by kernel_rfl
def i64B (k : Int) : Prop := -9223372036854775808 ≤ k ∧ k ≤ 9223372036854775807
theorem mi_at {k : Int} (h : i64B k) : keyOf Try.prog 3 (.int .i64 k) = some (.int .i64 k) := keyOf_int_mk Try.underlying3 (WalkArith.wf_i64 h)
/-- The map at M holds f. -/
structure MapI (w : World) (M n : Nat) (f : Int → Option Int) : Prop where
  ex : ∃ D : DataW Unit, w.ownsMap Try.prog 3 (plainElem Try.prog 3) M n D ∧ ∀ k : Int, i64B k → has D (.int .i64 k) = (f k).isSome ∧ D.atKey (.int .i64 k) (.lit (.int .i64 0)) = .lit (.int .i64 ((f k).getD 0))
theorem MapI.lt {w : World} {M n : Nat} {f : Int → Option Int} (h : MapI w M n f) : M < w.heap.size := by obtain ⟨D, h1, _⟩ := h.ex; exact h1.lt
theorem MapI.made (w : World) : MapI (w.alloc (.map #[] 0)) w.heap.size 0 (fun _ => none) :=
  ⟨.map [], World.ownsMap_made w _ _ _, fun k _ => ⟨rfl, rfl⟩⟩
theorem MapI.kept {w w' : World} {M n : Nat} {f : Int → Option Int} (h : MapI w M n f) (hg : w'.heap[M]? = w.heap[M]?) : MapI w' M n f := by
  obtain ⟨D, ⟨es, clock, hb, r⟩, h2⟩ := h.ex
  exact ⟨D, ⟨es, clock, hg.trans hb, r⟩, h2⟩
theorem MapI.below {w w' : World} {M n : Nat} {f : Int → Option Int} (h : MapI w M n f) (hb : Below w.heap.size w w') : MapI w' M n f := h.kept (hb.block M h.lt)
theorem MapI.alloc {w : World} {M n : Nat} {f : Int → Option Int} (h : MapI w M n f) (o : Obj) : MapI (w.alloc o) M n f := h.below ((Below.refl _ w).alloc (Nat.le_refl _) o)
theorem MapI.set {w : World} {M n : Nat} {f : Int → Option Int} (h : MapI w M n f) (a : Addr) (v : Value) (hne : M ≠ a.block) : MapI (w.setCell a v) M n f := h.kept (Below.heap_setCell w a v M hne)
theorem MapI.same {w : World} {M n : Nat} {f g : Int → Option Int} (h : MapI w M n f) (e : ∀ k, f k = g k) : MapI w M n g := by
  rw [show g = f from funext fun k => (e k).symm]; exact h
theorem MapI.ne {w : World} {M n : Nat} {f : Int → Option Int} (h : MapI w M n f) {g : Nat} {cs : List Value} {T : TypeId} (hb : Blk w g cs T) : M ≠ g := by
  obtain ⟨D, ⟨es, clock, h1, _⟩, _⟩ := h.ex
  rintro rfl
  rw [hb.heap] at h1
  cases h1
theorem mi_val {f : Int → Option Int} {k : Int} {v : Value} {ps : List MemPlace} (hv : plainElem (H := Unit) Try.prog 3 v = some (.lit (.int .i64 ((f k).getD 0)), ps)) : v = .int .i64 ((f k).getD 0) := by
  obtain ⟨a, rfl, hz, _⟩ := plainElem_int_inv Try.underlying3 hv
  simp only [Prod.mk.injEq, DataW.lit.injEq, Lit.int.injEq, true_and] at hz
  rw [hz.1]
/-- What is read. -/
theorem MapI.look {w : World} {M n : Nat} {f : Int → Option Int} (h : MapI w M n f) {k : Int} (hk : i64B k) : (Instr.lookup 53 (.map (some M)) (.int .i64 k) false).run Try.prog w = .ok (.int .i64 ((f k).getD 0)) w := by
  obtain ⟨D, h1, h2⟩ := h.ex
  obtain ⟨v, ps, hrun, hv⟩ := h1.lookup mi_key mi_info (mi_zero w) (plainElem_int Try.underlying3 (by decide)) (mi_at hk)
  rw [(h2 k hk).2] at hv
  rw [hrun, mi_val hv]
theorem MapI.ask {w : World} {M n : Nat} {f : Int → Option Int} (h : MapI w M n f) {k : Int} (hk : i64B k) : (Instr.lookup 53 (.map (some M)) (.int .i64 k) true).run Try.prog w = .ok (.tuple #[.int .i64 ((f k).getD 0), .bool (f k).isSome]) w := by
  obtain ⟨D, h1, h2⟩ := h.ex
  obtain ⟨v, ps, hrun, hv⟩ := h1.look_ok mi_key mi_info (mi_zero w) (plainElem_int Try.underlying3 (by decide)) (mi_at hk)
  rw [(h2 k hk).2] at hv
  rw [hrun, mi_val hv, (h2 k hk).1]
theorem wpList_putI {w : World} {ops : Array Oper} {rest : List Oper} {o : Oper} {a : Act} {Q : Exit → Act → World → Prop}
    (hg : o.guard = none) (m x v : Operand) (hop : o.op = Op.mapUpdate 53 m x v) (M n : Nat) (f : Int → Option Int) (hm : a.eval m = .map (some M)) (h : MapI w M n f) (hn : n < 1000000000)
    (k : Int) (hk : i64B k) (hx : a.eval x = .int .i64 k) (b : Int) (hb : i64B b) (hv : a.eval v = .int .i64 b)
    (hK : ∀ w', MapI w' M (n + 1) (fun j => if j = k then some b else f j) → w.grownBy w' (some M) → wpList Try.prog ops Q rest (a.put o.dst undef) w') :
    wpList Try.prog ops Q (o :: rest) a w := by
  obtain ⟨D, h1, h2⟩ := h.ex
  refine wpList_mapUpdate_own w hg m x v _ hop 3 3 mi_key mi_info _ M n D hm h1 (by unfold maxLen; omega) _ _ _ hx hv (mi_at hk) _ [] (plainElem_int Try.underlying3 (WalkArith.wf_i64 hb)) (fun w' o1 g1 => hK w' ⟨_, o1, fun j hj => ?_⟩ g1)
  by_cases e : j = k
  · subst e
    rw [if_pos rfl, has_put_same h1.isMap (show WideAt.IsKeyLit (.int .i64 _) from trivial), atKey_put_same h1.isMap (show WideAt.IsKeyLit (.int .i64 _) from trivial)]
    exact ⟨rfl, rfl⟩
  · rw [if_neg e, has_put_other (fun e1 => e (by cases e1; rfl)), atKey_put_other (fun e1 => e (by cases e1; rfl))]
    exact h2 j hj
end Go.Proofs.Ytoljlpddcpdoiaa
