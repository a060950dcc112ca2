/- The mainline: what the iterator does to the memory, what a round must leave to it. No program. -/
import Derived.Test.YtoljlpddcpdoiaaT1
import Derived.Test.YtoljlpddcpdoiaaW4
namespace Go.Proofs.Ytoljlpddcpdoiaa
open Go Go.RowKit Go.Maps
set_option linter.unusedVariables false
set_option linter.unusedSimpArgs false

/-- A turn of the iterator: its cell c and its map M alone. -/
structure Tw (c M : Nat) (A B : World) : Prop where
  os : B.os = A.os
  tape : B.tape = A.tape
  output : B.output = A.output
  size : A.heap.size ≤ B.heap.size
  block : ∀ k, k < A.heap.size → k ≠ c → k ≠ M → B.heap[k]? = A.heap[k]?
theorem Tw.trans {c M : Nat} {A B C : World} (h : Tw c M A B) (k : Tw c M B C) : Tw c M A C :=
  ⟨k.os.trans h.os, k.tape.trans h.tape, k.output.trans h.output, Nat.le_trans h.size k.size, fun i hi h1 h2 => (k.block i (Nat.lt_of_lt_of_le hi h.size) h1 h2).trans (h.block i hi h1 h2)⟩
theorem Tw.below {c M : Nat} {A B : World} (h : Below A.heap.size A B) : Tw c M A B := ⟨h.os, h.tape, h.output, h.size, fun k hk _ _ => h.block k hk⟩
theorem Tw.grown {c M : Nat} {A B : World} (h : A.grownBy B (some M)) : Tw c M A B := by
  have hb := (Below.refl 0 A).grown h (Nat.zero_le _) (fun k _ => Nat.zero_le _)
  exact ⟨hb.os, hb.tape, hb.output, h.size, fun k hk _ hM => h.block k hk (fun e => hM (by cases e; rfl))⟩
theorem Tw.set {c M : Nat} {A : World} (o : Nat) (f : Option Nat) (v : Value) : Tw c M A (A.setCell ⟨c, o, none⟩ v) := by
  have hb := (Below.refl 0 A).setCell (p := ⟨c, o, none⟩) (Nat.zero_le _) v
  exact ⟨hb.os, hb.tape, hb.output, hb.size, fun k _ hc _ => Below.heap_setCell A ⟨c, o, none⟩ v k hc⟩
theorem Tw.keep {c M n : Nat} {w A B : World} (h : Tw c M A B) (hb : Below n w A) (hn : n ≤ w.heap.size) (hc : n ≤ c) (hM : n ≤ M) : Below n w B :=
  ⟨h.os.trans hb.os, h.tape.trans hb.tape, h.output.trans hb.output, Nat.le_trans hb.size h.size, fun k hk => (h.block k (Nat.lt_of_lt_of_le hk (Nat.le_trans hn hb.size)) (by omega) (by omega)).trans (hb.block k hk)⟩
/-- What a round leaves as it was: all below nb, and the blocks of S. -/
structure Kq (nb : Nat) (S : Nat → Prop) (A B : World) : Prop where
  bel : Below nb A B
  same : ∀ k, S k → k < A.heap.size → B.heap[k]? = A.heap[k]?
theorem Kq.trans {nb : Nat} {S : Nat → Prop} {A B C : World} (h : Kq nb S A B) (k : Kq nb S B C) : Kq nb S A C :=
  ⟨h.bel.trans k.bel, fun i hi hl => (k.same i hi (Nat.lt_of_lt_of_le hl h.bel.size)).trans (h.same i hi hl)⟩
theorem Kq.blk {nb : Nat} {S : Nat → Prop} {A B : World} (h : Kq nb S A B) {g : Nat} {cs : List Value} {T : TypeId} (hb : Blk A g cs T) (hs : S g) : Blk B g cs T := ⟨(h.same g hs hb.lt).trans hb.heap⟩
theorem Evm.keep {nb : Nat} {w W : World} {A : Option Addr} {n : Nat} {E : Nat → Me} (h : Evm w A n E) (e : w.heap.size = nb) (hb : Below nb w W) : Evm W A n E := h.below (e ▸ hb)
theorem blk_set1 {w : World} {g : Nat} {u v : Value} {T : TypeId} (h : Blk w g [u] T) : Blk (w.setCell ⟨g, 0, none⟩ v) g [v] T := by
  have := h.set 0 v
  simpa using this
theorem wpList_asgn_nop : True := trivial
end Go.Proofs.Ytoljlpddcpdoiaa
