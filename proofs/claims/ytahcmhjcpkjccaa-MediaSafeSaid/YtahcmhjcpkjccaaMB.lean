/- A map from int to bool of the call's own: made, written, struck, read. Bound: keys below 1000000000. -/
import Derived.Test.YtahcmhjcpkjccaaG5
import Derived.Test.YtahcmhjcpkjccaaRows
import Derived.OwnWalk
import Derived.Maps.OwnOps
import Derived.Maps.OwnSet
import Derived.Maps.Views
namespace Go.Proofs.Ytahcmhjcpkjccaa
open Go.RowKit Go.Maps Go.Proofs
set_option linter.unusedVariables false

theorem mb_key : Keyed Try.prog 3 := int_keyed Try.underlying3
theorem mb_zero (w : World) : (zeroValue 4).run Try.prog w = .ok (.bool false) w := by kernel_rfl
theorem mb_under4 : Try.prog.underlying 4 = some .bool := by kernel_rfl
theorem mb_info : Try.prog.underlying 56 = some (.map 3 4) := by kernel_rfl
theorem mb_at {k : Nat} (h : k < 1000000000) : keyOf Try.prog 3 (.int .i64 (k : Int)) = some (.int .i64 (k : Int)) := keyOf_int_mk Try.underlying3 (WalkArith.wf_i64 ⟨by omega, by omega⟩)
/-- The map at M holds f. -/
structure MapB (w : World) (M n : Nat) (f : Nat → Bool) : Prop where
  ex : ∃ D : DataW Unit, w.ownsMap Try.prog 3 (plainElem Try.prog 4) M n D ∧ ∀ k : Nat, k < 1000000000 → D.atKey (.int .i64 (k : Int)) (.lit (.bool false)) = .lit (.bool (f k))
theorem MapB.lt {w : World} {M n : Nat} {f : Nat → Bool} (h : MapB w M n f) : M < w.heap.size := by obtain ⟨D, h1, _⟩ := h.ex; exact h1.lt
theorem MapB.made (w : World) : MapB (w.alloc (.map #[] 0)) w.heap.size 0 (fun _ => false) :=
  ⟨.map [], World.ownsMap_made w _ _ _, fun k _ => rfl⟩
theorem MapB.kept {w w' : World} {M n : Nat} {f : Nat → Bool} (h : MapB w M n f) (hg : w'.heap[M]? = w.heap[M]?) : MapB w' M n f := by
  obtain ⟨D, ⟨es, clock, hb, r⟩, h2⟩ := h.ex
  exact ⟨D, ⟨es, clock, hg.trans hb, r⟩, h2⟩
theorem MapB.below {w w' : World} {M n : Nat} {f : Nat → Bool} (h : MapB w M n f) (hb : Below w.heap.size w w') : MapB w' M n f := h.kept (hb.block M h.lt)
theorem MapB.alloc {w : World} {M n : Nat} {f : Nat → Bool} (h : MapB w M n f) (o : Obj) : MapB (w.alloc o) M n f := h.below ((Below.refl _ w).alloc (Nat.le_refl _) o)
theorem MapB.set {w : World} {M n : Nat} {f : Nat → Bool} (h : MapB w M n f) (a : Addr) (v : Value) (hne : M ≠ a.block) : MapB (w.setCell a v) M n f := h.kept (Below.heap_setCell w a v M hne)
theorem MapB.same {w : World} {M n : Nat} {f g : Nat → Bool} (h : MapB w M n f) (e : ∀ k, f k = g k) : MapB w M n g := by
  rw [show g = f from funext fun k => (e k).symm]; exact h
theorem MapB.ne {w : World} {M n : Nat} {f : Nat → Bool} (h : MapB w M n f) {g : Nat} {cs : List Value} {T : TypeId} (hb : Blk w g cs T) : M ≠ g := by
  obtain ⟨D, ⟨es, clock, h1, _⟩, _⟩ := h.ex
  rintro rfl
  rw [hb.heap] at h1
  cases h1
/-- What is read. -/
theorem MapB.look {w : World} {M n : Nat} {f : Nat → Bool} (h : MapB w M n f) {k : Nat} (hk : k < 1000000000) : (Instr.lookup 56 (.map (some M)) (.int .i64 (k : Int)) false).run Try.prog w = .ok (.bool (f k)) w := by
  obtain ⟨D, h1, h2⟩ := h.ex
  obtain ⟨v, ps, hrun, hv⟩ := h1.lookup mb_key mb_info (mb_zero w) (plainElem_bool mb_under4 false) (mb_at hk)
  rw [h2 k hk] at hv
  unfold plainElem at hv
  rw [mb_under4] at hv
  cases v <;> simp at hv
  rw [hrun, hv.1]
theorem wpList_putB {w : World} {ops : Array Oper} {rest : List Oper} {o : Oper} {a : Act} {Q : Exit → Act → World → Prop}
    (hg : o.guard = none) (m x v : Operand) (hop : o.op = Op.mapUpdate 56 m x v) (M n : Nat) (f : Nat → Bool) (hm : a.eval m = .map (some M)) (h : MapB w M n f) (hn : n < 1000000000)
    (k : Nat) (hk : k < 1000000000) (hx : a.eval x = .int .i64 (k : Int)) (b : Bool) (hv : a.eval v = .bool b)
    (hK : ∀ w', MapB w' M (n + 1) (fun j => if j = k then b else f j) → w.grownBy w' (some M) → wpList Try.prog ops Q rest (a.put o.dst undef) w') :
    wpList Try.prog ops Q (o :: rest) a w := by
  obtain ⟨D, h1, h2⟩ := h.ex
  refine wpList_mapUpdate_own w hg m x v _ hop 3 4 mb_key mb_info _ M n D hm h1 (by unfold maxLen; omega) _ _ _ hx hv (mb_at hk) _ [] (plainElem_bool mb_under4 b) (fun w' o1 g1 => hK w' ⟨_, o1, fun j hj => ?_⟩ g1)
  by_cases e : j = k
  · subst e
    rw [if_pos rfl, atKey_put_same h1.isMap (show WideAt.IsKeyLit (.int .i64 _) from trivial)]
  · rw [if_neg e, atKey_put_other (fun e1 => e (by cases e1; rfl)), h2 j hj]
theorem wpList_delB {w : World} {ops : Array Oper} {rest : List Oper} {o : Oper} {a : Act} {Q : Exit → Act → World → Prop}
    (hg : o.guard = none) (m x : Operand) (hop : o.op = Op.call { callee := Callee.builtin Builtin.delete, args := #[m, x], argTypes := #[56, 3] }) (M n : Nat) (f : Nat → Bool) (hm : a.eval m = .map (some M)) (h : MapB w M n f)
    (k : Nat) (hk : k < 1000000000) (hx : a.eval x = .int .i64 (k : Int))
    (hK : ∀ w', MapB w' M n (fun j => if j = k then false else f j) → w.grownBy w' (some M) → wpList Try.prog ops Q rest (a.put o.dst (.tuple #[])) w') :
    wpList Try.prog ops Q (o :: rest) a w := by
  obtain ⟨D, h1, h2⟩ := h.ex
  refine wpList_delete_own (P := Try.prog) w hg m x _ 3 hop 4 mb_key mb_info _ M n D hm h1 _ _ hx (mb_at hk) (fun w' o1 g1 => hK w' ⟨_, o1, fun j hj => ?_⟩ g1.grown)
  by_cases e : j = k
  · subst e
    rw [if_pos rfl, atKey_del_same]
  · rw [if_neg e, atKey_del_other (fun e1 => e (by cases e1; rfl)), h2 j hj]
end Go.Proofs.Ytahcmhjcpkjccaa
