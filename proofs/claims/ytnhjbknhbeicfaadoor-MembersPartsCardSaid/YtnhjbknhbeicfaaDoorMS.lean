/- A map from string to bool of the call's own: made, written, read. -/
import Derived.Test.YtnhjbknhbeicfaaDoorG5
import Derived.Test.YtnhjbknhbeicfaaDoorRows
import Derived.OwnWalk
import Derived.Maps.OwnOps
import Derived.Maps.OwnSet
import Derived.Maps.Views
namespace Go.Proofs.YtnhjbknhbeicfaaDoor
open Go.RowKit Go.Maps Go.Proofs
set_option linter.unusedVariables false

theorem ms_key : Keyed Tryd.prog 9 := string_keyed Tryd.underlying9
theorem ms_zero (w : World) : (zeroValue 4).run Tryd.prog w = .ok (.bool false) w := by kernel_rfl
theorem ms_under4 : Tryd.prog.underlying 4 = some .bool := by kernel_rfl
theorem ms_info : Tryd.prog.underlying 55 = some (.map 9 4) := by kernel_rfl
theorem ms_at {s : ByteArray} (h : s.size ≤ 9223372036854775807) : keyOf Tryd.prog 9 (.string s) = some (.string s.data.toList) := WideMaps.keyOf_string_mk Tryd.underlying9 (by unfold maxLen; exact h)
/-- The map at M holds f. -/
structure MapS (w : World) (M n : Nat) (f : List UInt8 → Bool) : Prop where
  ex : ∃ D : DataW Unit, w.ownsMap Tryd.prog 9 (plainElem Tryd.prog 4) M n D ∧ ∀ k : List UInt8, D.atKey (.string k) (.lit (.bool false)) = .lit (.bool (f k))
theorem MapS.lt {w : World} {M n : Nat} {f : List UInt8 → Bool} (h : MapS w M n f) : M < w.heap.size := by obtain ⟨D, h1, _⟩ := h.ex; exact h1.lt
theorem MapS.made (w : World) : MapS (w.alloc (.map #[] 0)) w.heap.size 0 (fun _ => false) :=
  ⟨.map [], World.ownsMap_made w _ _ _, fun k => rfl⟩
theorem MapS.kept {w w' : World} {M n : Nat} {f : List UInt8 → Bool} (h : MapS w M n f) (hg : w'.heap[M]? = w.heap[M]?) : MapS w' M n f := by
  obtain ⟨D, ⟨es, clock, hb, r⟩, h2⟩ := h.ex
  exact ⟨D, ⟨es, clock, hg.trans hb, r⟩, h2⟩
theorem MapS.below {w w' : World} {M n : Nat} {f : List UInt8 → Bool} (h : MapS w M n f) (hb : Below w.heap.size w w') : MapS w' M n f := h.kept (hb.block M h.lt)
theorem MapS.alloc {w : World} {M n : Nat} {f : List UInt8 → Bool} (h : MapS w M n f) (o : Obj) : MapS (w.alloc o) M n f := h.below ((Below.refl _ w).alloc (Nat.le_refl _) o)
theorem MapS.set {w : World} {M n : Nat} {f : List UInt8 → Bool} (h : MapS w M n f) (a : Addr) (v : Value) (hne : M ≠ a.block) : MapS (w.setCell a v) M n f := h.kept (Below.heap_setCell w a v M hne)
theorem MapS.same {w : World} {M n : Nat} {f g : List UInt8 → Bool} (h : MapS w M n f) (e : ∀ k, f k = g k) : MapS w M n g := by
  rw [show g = f from funext fun k => (e k).symm]; exact h
theorem MapS.ne {w : World} {M n : Nat} {f : List UInt8 → Bool} (h : MapS w M n f) {g : Nat} {cs : List Value} {T : TypeId} (hb : Blk w g cs T) : M ≠ g := by
  obtain ⟨D, ⟨es, clock, h1, _⟩, _⟩ := h.ex
  rintro rfl
  rw [hb.heap] at h1
  cases h1
/-- What is read. -/
theorem MapS.look {w : World} {M n : Nat} {f : List UInt8 → Bool} (h : MapS w M n f) {s : ByteArray} (hk : s.size ≤ 9223372036854775807) : (Instr.lookup 55 (.map (some M)) (.string s) false).run Tryd.prog w = .ok (.bool (f s.data.toList)) w := by
  obtain ⟨D, h1, h2⟩ := h.ex
  obtain ⟨v, ps, hrun, hv⟩ := h1.lookup ms_key ms_info (ms_zero w) (plainElem_bool ms_under4 false) (ms_at hk)
  rw [h2 _] at hv
  unfold plainElem at hv
  rw [ms_under4] at hv
  cases v <;> simp at hv
  rw [hrun, hv.1]
theorem wpList_putS {w : World} {ops : Array Oper} {rest : List Oper} {o : Oper} {a : Act} {Q : Exit → Act → World → Prop}
    (hg : o.guard = none) (m x v : Operand) (hop : o.op = Op.mapUpdate 55 m x v) (M n : Nat) (f : List UInt8 → Bool) (hm : a.eval m = .map (some M)) (h : MapS w M n f) (hn : n < 1000000000)
    (s : ByteArray) (hk : s.size ≤ 9223372036854775807) (hx : a.eval x = .string s) (b : Bool) (hv : a.eval v = .bool b)
    (hK : ∀ w', MapS w' M (n + 1) (fun j => if j = s.data.toList then b else f j) → w.grownBy w' (some M) → wpList Tryd.prog ops Q rest (a.put o.dst undef) w') :
    wpList Tryd.prog ops Q (o :: rest) a w := by
  obtain ⟨D, h1, h2⟩ := h.ex
  refine wpList_mapUpdate_own w hg m x v _ hop 9 4 ms_key ms_info _ M n D hm h1 (by unfold maxLen; omega) _ _ _ hx hv (ms_at hk) _ [] (plainElem_bool ms_under4 b) (fun w' o1 g1 => hK w' ⟨_, o1, fun j => ?_⟩ g1)
  by_cases e : j = s.data.toList
  · subst e
    rw [if_pos rfl, atKey_put_same h1.isMap (show WideAt.IsKeyLit (.string _) from trivial)]
  · rw [if_neg e, atKey_put_other (fun e1 => e (by cases e1; rfl)), h2 j]
end Go.Proofs.YtnhjbknhbeicfaaDoor
