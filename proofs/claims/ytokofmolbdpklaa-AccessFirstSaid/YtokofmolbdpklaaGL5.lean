/- Two laws at single operations: the bytes of a text in new memory; a slice of bytes from a place on. No condition beside the bounds. -/
import Derived.Test.YtokofmolbdpklaaGL4
import Derived.Laws.IdiomStrings
namespace Go.Proofs.Ytokofmolbdpklaa.GL
open Go.RowKit
set_option linter.unusedVariables false

theorem bys_bd (s : ByteArray) : ∀ z ∈ bys s, 0 ≤ z ∧ z ≤ 255 := by
  intro z hz
  unfold bys at hz
  obtain ⟨c, _, rfl⟩ := List.mem_map.1 hz
  have := c.toNat_lt
  omega
theorem bys_getD (s : ByteArray) (k : Nat) (h : k < s.size) : (bys s).getD k 0 = (s[k].toNat : Int) := by
  rw [List.getD_eq_getElem?_getD, List.getElem?_eq_getElem (by rw [bys_len]; exact h)]
  exact bys_getE s k h

theorem wpList_bytes {ops : Array Oper} {rest : List Oper} {o : Oper} {a : Act} {Q : Exit → Act → World → Prop} {w : World} (hg : o.guard = none) {x : Operand} (hop : o.op = .convert 9 69 x)
    (s : ByteArray) (hx : a.eval x = .string s) (hs : s.size ≤ 9223372036854775807)
    (hK : ∀ A c w', s.size ≤ c → Byt w' A s.size (bys s) → Below w.heap.size w w' → wpList Try.prog ops Q rest (a.put o.dst (.slice A s.size c)) w') : wpList Try.prog ops Q (o :: rest) a w := by
  refine wpList_plain hg fun K hK' => ?_
  have hrun := run_bytes_of_string (P := Try.prog) w 9 69 5 s Try.underlying9 Try.underlying69 Try.underlying5
  unfold Oper.wp
  simp [execOp, hop, hx, hrun, Result.andThen]
  refine hK' _ _ (hK _ _ _ (grownCap_ge _ _ _ _) ⟨bys_len s, bys_bd s, hs, fun h0 => ⟨w.heap.size, 0, rfl, by simp, fun i hi => ?_⟩⟩ ?_)
  · have h := bytesRow_at s (grownCap w s.size 0 5) i hi
    have hb : (w.drew.alloc (.cells (bytesRow s (grownCap w s.size 0 5)) 5 ((bytesRow s (grownCap w s.size 0 5)).size, (bytesRow s (grownCap w s.size 0 5)).size + 1))).heap[w.heap.size]? = some (.cells (bytesRow s (grownCap w s.size 0 5)) 5 ((bytesRow s (grownCap w s.size 0 5)).size, (bytesRow s (grownCap w s.size 0 5)).size + 1)) := heap_alloc_new w.drew _
    rw [cell_of_row _ _ _ _ _ _ hb, Nat.zero_add, h, bys_getD s i hi]
    rfl
  · exact ((Below.refl _ _).drew).alloc (Nat.le_refl _) _

theorem size35 (w : World) : (sizeOf (Try.prog.elem 69)).run Try.prog w = .ok 1 w := by kernel_rfl
theorem under35 : Try.prog.underlying 69 = some (.slice (Try.prog.elem 69)) := by kernel_rfl

theorem wpList_from {ops : Array Oper} {rest : List Oper} {o : Oper} {a : Act} {Q : Exit → Act → World → Prop} {w : World} (hg : o.guard = none) {x l : Operand} (hop : o.op = .slice 69 x (some l) none none)
    (A : Option Addr) (n c : Nat) (zs : List Int) (i : Int) (k : Nat) (hx : a.eval x = .slice A n c) (hl : a.eval l = .int .i64 i) (hi : i = (k : Int)) (hb : Byt w A n zs) (hk : k ≤ n) (hc : n ≤ c)
    (hK : ∀ A', Byt w A' (n - k) (zs.drop k) → wpList Try.prog ops Q rest (a.put o.dst (.slice A' (n - k) (c - k))) w) : wpList Try.prog ops Q (o :: rest) a w := by
  subst hi
  refine wpList_plain hg fun K hK' => ?_
  have hrun := run_slice_l (P := Try.prog) w 69 A n c under35 .i64 (k : Int) (by omega) (by omega)
  rw [size35] at hrun
  have hr2 : (Instr.sliceAt 69 (.slice A n c) (some (.int .i64 (k : Int))) none none).run Try.prog w = .ok (sliced A k n c 1) w := by
    rw [run_sliceAt_slice w 69 _ _ _ _ under35, hrun]; rfl
  unfold Oper.wp
  simp [execOp, hop, hx, hl, hr2, Result.andThen]
  refine hK' _ _ ?_
  unfold sliced
  by_cases h : c = k
  · rw [if_pos h]
    exact hK A (hb.nothing A (by omega))
  · rw [if_neg h, Nat.mul_one]
    exact hK _ (hb.drop k hk)
end Go.Proofs.Ytokofmolbdpklaa.GL
