/- As XMJ, without XMI: a map from int to bool of the call's own, any keys: made, written, read, asked. No condition on the keys. -/
import Derived.Test.YtefajhfahnhcgaaG5
import Derived.Test.YtefajhfahnhcgaaRows
import Derived.OwnWalk
import Derived.Maps.OwnOps
import Derived.Maps.OwnSet
import Derived.Maps.Views
namespace Go.Proofs.Ytefajhfahnhcgaa
open Go.RowKit Go.Maps Go.Proofs
set_option linter.unusedVariables false

theorem mi_key : Keyed Try.prog 3 := int_keyed Try.underlying3
def i64B (k : Int) : Prop := -9223372036854775808 ≤ k ∧ k ≤ 9223372036854775807
theorem mi_at {k : Int} (h : i64B k) : keyOf Try.prog 3 (.int .i64 k) = some (.int .i64 k) := keyOf_int_mk Try.underlying3 (WalkArith.wf_i64 h)
theorem mj_zero (w : World) : (zeroValue 4).run Try.prog w = .ok (.bool false) w := by kernel_rfl
theorem mj_under4 : Try.prog.underlying 4 = some .bool := by kernel_rfl
theorem mj_info : Try.prog.underlying 77 = some (.map 3 4) := by kernel_rfl
/-- The map at M holds f. -/
structure MapJ (w : World) (M n : Nat) (f : Int → Bool) : Prop where
  ex : ∃ D : DataW Unit, w.ownsMap Try.prog 3 (plainElem Try.prog 4) M n D ∧ ∀ k : Int, i64B k → D.atKey (.int .i64 k) (.lit (.bool false)) = .lit (.bool (f k))
theorem MapJ.lt {w : World} {M n : Nat} {f : Int → Bool} (h : MapJ w M n f) : M < w.heap.size := by obtain ⟨D, h1, _⟩ := h.ex; exact h1.lt
theorem MapJ.made (w : World) : MapJ (w.alloc (.map #[] 0)) w.heap.size 0 (fun _ => false) :=
  ⟨.map [], World.ownsMap_made w _ _ _, fun k _ => rfl⟩
theorem MapJ.kept {w w' : World} {M n : Nat} {f : Int → Bool} (h : MapJ w M n f) (hg : w'.heap[M]? = w.heap[M]?) : MapJ w' M n f := by
  obtain ⟨D, ⟨es, clock, hb, r⟩, h2⟩ := h.ex
  exact ⟨D, ⟨es, clock, hg.trans hb, r⟩, h2⟩
theorem MapJ.below {w w' : World} {M n : Nat} {f : Int → Bool} (h : MapJ w M n f) (hb : Below w.heap.size w w') : MapJ w' M n f := h.kept (hb.block M h.lt)
theorem MapJ.alloc {w : World} {M n : Nat} {f : Int → Bool} (h : MapJ w M n f) (o : Obj) : MapJ (w.alloc o) M n f := h.below ((Below.refl _ w).alloc (Nat.le_refl _) o)
theorem MapJ.set {w : World} {M n : Nat} {f : Int → Bool} (h : MapJ w M n f) (a : Addr) (v : Value) (hne : M ≠ a.block) : MapJ (w.setCell a v) M n f := h.kept (Below.heap_setCell w a v M hne)
theorem MapJ.same {w : World} {M n : Nat} {f g : Int → Bool} (h : MapJ w M n f) (e : ∀ k, f k = g k) : MapJ w M n g := by
  rw [show g = f from funext fun k => (e k).symm]; exact h
theorem MapJ.ne {w : World} {M n : Nat} {f : Int → Bool} (h : MapJ w M n f) {g : Nat} {cs : List Value} {T : TypeId} (hb : Blk w g cs T) : M ≠ g := by
  obtain ⟨D, ⟨es, clock, h1, _⟩, _⟩ := h.ex
  rintro rfl
  rw [hb.heap] at h1
  cases h1
/-- What is read. -/
theorem MapJ.look {w : World} {M n : Nat} {f : Int → Bool} (h : MapJ w M n f) {k : Int} (hk : i64B k) : (Instr.lookup 77 (.map (some M)) (.int .i64 k) false).run Try.prog w = .ok (.bool (f k)) w := by
  obtain ⟨D, h1, h2⟩ := h.ex
  obtain ⟨v, ps, hrun, hv⟩ := h1.lookup mi_key mj_info (mj_zero w) (plainElem_bool mj_under4 false) (mi_at hk)
  rw [h2 k hk] at hv
  unfold plainElem at hv
  rw [mj_under4] at hv
  cases v <;> simp at hv
  rw [hrun, hv.1]
theorem wpList_putJ {w : World} {ops : Array Oper} {rest : List Oper} {o : Oper} {a : Act} {Q : Exit → Act → World → Prop}
    (hg : o.guard = none) (m x v : Operand) (hop : o.op = Op.mapUpdate 77 m x v) (M n : Nat) (f : Int → Bool) (hm : a.eval m = .map (some M)) (h : MapJ w M n f) (hn : n < 1000000000)
    (k : Int) (hk : i64B k) (hx : a.eval x = .int .i64 k) (b : Bool) (hv : a.eval v = .bool b)
    (hK : ∀ w', MapJ w' M (n + 1) (fun j => if j = k then b else f j) → w.grownBy w' (some M) → wpList Try.prog ops Q rest (a.put o.dst undef) w') :
    wpList Try.prog ops Q (o :: rest) a w := by
  obtain ⟨D, h1, h2⟩ := h.ex
  refine wpList_mapUpdate_own w hg m x v _ hop 3 4 mi_key mj_info _ M n D hm h1 (by unfold maxLen; omega) _ _ _ hx hv (mi_at hk) _ [] (plainElem_bool mj_under4 b) (fun w' o1 g1 => hK w' ⟨_, o1, fun j hj => ?_⟩ g1)
  by_cases e : j = k
  · subst e
    rw [if_pos rfl, atKey_put_same h1.isMap (show WideAt.IsKeyLit (.int .i64 _) from trivial)]
  · rw [if_neg e, atKey_put_other (fun e1 => e (by cases e1; rfl))]
    exact h2 j hj
end Go.Proofs.Ytefajhfahnhcgaa
