/- A block known whole: its cells, stores into it, and what leaves it alone. No condition on the program. -/
import Derived.Test.YtbkchcpfnoclhaaGreatG3
import Derived.Laws.ResultCell
import Derived.Deep.Upon
namespace Go.Proofs.YtbkchcpfnoclhaaGreat
open Go.RowKit
set_option linter.unusedVariables false

/-- Block `t` of `w` is the row `cs`. -/
structure Blk (w : World) (t : Nat) (cs : List Value) (T : TypeId) : Prop where
  heap : w.heap[t]? = some (.cells cs.toArray T (0, 0))
section
variable {w w1 : World} {t : Nat} {cs : List Value} {T : TypeId}
theorem Blk.lt (h : Blk w t cs T) : t < w.heap.size := by
  rcases Nat.lt_or_ge t w.heap.size with h1 | h1
  · exact h1
  · have := h.heap; rw [Array.getElem?_eq_none h1] at this; cases this
theorem Blk.cell (h : Blk w t cs T) {i : Nat} {v : Value} (hv : cs[i]? = some v) : w.cell? ⟨t, i, none⟩ = some v := by
  rw [cell_of_row w t i _ T _ h.heap, List.getElem?_toArray]; exact hv
theorem Blk.free (h : Blk w t cs T) (i : Nat) : w.frozen? ⟨t, i, none⟩ = false := frozen_of_row w t i _ T h.heap
theorem Blk.below (h : Blk w t cs T) (hb : Below w.heap.size w w1) : Blk w1 t cs T := ⟨(hb.block t h.lt).trans h.heap⟩
theorem Blk.at_ {B : Nat} (h : Blk w t cs T) (hb : Below B w w1) (ht : t < B) : Blk w1 t cs T := ⟨(hb.block t ht).trans h.heap⟩
theorem blk_new (w : World) (cs : List Value) (T : TypeId) : Blk (w.alloc (.cells cs.toArray T)) w.heap.size cs T := ⟨heap_alloc_new w _⟩
theorem Blk.alloc (h : Blk w t cs T) (o : Obj) : Blk (w.alloc o) t cs T := h.below ((Below.refl _ w).alloc (Nat.le_refl _) o)
theorem Blk.drew (h : Blk w t cs T) : Blk w.drew t cs T := ⟨h.heap⟩
theorem Blk.set (h : Blk w t cs T) (i : Nat) (v : Value) : Blk (w.setCell ⟨t, i, none⟩ v) t (cs.set i v) T := by
  refine ⟨?_⟩
  rw [heap_setCell_same w t i _ T v h.heap, List.setIfInBounds_toArray]
theorem Blk.other (h : Blk w t cs T) (a : Addr) (v : Value) (hne : t ≠ a.block) : Blk (w.setCell a v) t cs T := ⟨(heap_setCell_other w a t v hne).trans h.heap⟩
theorem Blk.range (h : Blk w t cs T) : World.rangeAt w t 0 cs := fun j v hv => by rw [Nat.zero_add]; exact h.cell hv
theorem Blk.mid (h : Blk w t cs T) (o n : Nat) : World.rangeAt w t o ((cs.drop o).take n) := fun j v hv => by
  refine h.cell ?_
  rw [List.getElem?_take] at hv
  split at hv
  · rw [List.getElem?_drop] at hv; exact hv
  · cases hv
theorem Blk.there (h : Blk w t cs T) {n : Nat} (hn : n ≤ cs.length) : w.there t 0 n := fun j hj =>
  ⟨by rw [Nat.zero_add, h.cell (List.getElem?_eq_getElem (by omega))]; rfl, h.free _⟩
theorem set_all : ∀ (vs pre post : List Value) (w : World) (_ : Blk w t (pre ++ post) T) (_ : vs.length = post.length), Blk (w.setCells t pre.length vs) t (pre ++ vs) T
  | [], pre, post, w, h, e => by
    have : post = [] := List.eq_nil_of_length_eq_zero e.symm
    subst this
    exact h
  | v :: vs, pre, [], w, h, e => by simp at e
  | v :: vs, pre, p :: post, w, h, e => by
    have h1 := h.set pre.length v
    rw [List.set_append_right _ _ (Nat.le_refl _), Nat.sub_self, List.set_cons_zero, show pre ++ v :: post = (pre ++ [v]) ++ post by simp] at h1
    have h2 := set_all vs (pre ++ [v]) post _ h1 (by simpa using e)
    rw [List.length_append, List.length_singleton, List.append_assoc, List.singleton_append] at h2
    exact h2
theorem Blk.setAll (h : Blk w t cs T) (vs : List Value) (e : vs.length = cs.length) : Blk (w.setCells t 0 vs) t vs T := set_all vs [] cs w h e
theorem Blk.otherAll (h : Blk w t cs T) (g o : Nat) (vs : List Value) (hne : t ≠ g) : Blk (w.setCells g o vs) t cs T := ⟨(World.heap_setCells_other w g o vs h.lt hne).trans h.heap⟩
end
theorem below_setAll {B b : Nat} {a : World} (hb : B ≤ b) : ∀ (vs : List Value) (o : Nat) (w : World), Below B a w → Below B a (w.setCells b o vs)
  | [], _, _, h => h
  | v :: r, o, w, h => below_setAll hb r (o + 1) _ (h.setCell (p := ⟨b, o, none⟩) hb v)
theorem size_setAll (b : Nat) : ∀ (vs : List Value) (o : Nat) (w : World), (w.setCells b o vs).heap.size = w.heap.size
  | [], _, _ => rfl
  | v :: r, o, w => (size_setAll b r (o + 1) _).trans (by simp)
/-- Rows in other blocks stand. -/
theorem Rws.other {w : World} {A : Option Addr} {n c sz : Nat} {L : Nat → List Value} (h : Rws w A n c sz L) (a : Addr) (v : Value) (hne : 0 < n → ∀ b off, A = some ⟨b, off, none⟩ → b ≠ a.block) : Rws (w.setCell a v) A n c sz L := by
  refine ⟨h.len, h.one, h.big, h.nil, ?_⟩
  rcases Nat.eq_zero_or_pos n with h0 | h0
  · exact .inl h0
  · refine h.at_.imp id fun ⟨b, off, e, hlt, hc⟩ => ⟨b, off, e, by simpa using hlt, fun j hj i u hu => ?_⟩
    have := heap_setCell_other w a b v (hne h0 b off e)
    exact (World.cell?_of_block (a := ⟨b, off + j * sz + i, none⟩) this).trans (hc j hj i u hu)
theorem Rws.otherAll {w : World} {A : Option Addr} {n c sz : Nat} {L : Nat → List Value} (h : Rws w A n c sz L) (g o : Nat) (vs : List Value) (hne : 0 < n → ∀ b off, A = some ⟨b, off, none⟩ → b ≠ g) : Rws (w.setCells g o vs) A n c sz L := by
  refine ⟨h.len, h.one, h.big, h.nil, ?_⟩
  rcases Nat.eq_zero_or_pos n with h0 | h0
  · exact .inl h0
  · refine h.at_.imp id fun ⟨b, off, e, hlt, hc⟩ => ⟨b, off, e, by rw [size_setAll]; exact hlt, fun j hj i u hu => ?_⟩
    have := World.heap_setCells_other w g o vs hlt (hne h0 b off e)
    exact (World.cell?_of_block (a := ⟨b, off + j * sz + i, none⟩) this).trans (hc j hj i u hu)
/-- The row lies in the call's own memory. -/
def New (w : World) (n : Nat) (A : Option Addr) : Prop := 0 < n → ∀ b off, A = some ⟨b, off, none⟩ → w.heap.size ≤ b
theorem New.ne {w : World} {n : Nat} {A : Option Addr} (h : New w n A) {t : Nat} (ht : t < w.heap.size) : 0 < n → ∀ b off, A = some ⟨b, off, none⟩ → b ≠ t := fun h0 b off e => by
  have := h h0 b off e; omega
theorem New.mono {w w1 : World} {n : Nat} {A : Option Addr} (h : New w1 n A) (hs : w.heap.size ≤ w1.heap.size) : New w n A := fun h0 b off e => Nat.le_trans hs (h h0 b off e)
theorem CopyR.new {w w' : World} {e : TypeId} {sz n c : Nat} {L : Nat → List Value} {A : Option Addr} (h : CopyR w w' e sz n L A c) : New w n A := by
  rintro h0 b off rfl
  exact (h.own.lt b rfl).1
/-- .. or in memory that was there. -/
theorem Rws.old {w : World} {A : Option Addr} {n c sz : Nat} {L : Nat → List Value} (h : Rws w A n c sz L) {t : Nat} (ht : w.heap.size ≤ t) : 0 < n → ∀ b off, A = some ⟨b, off, none⟩ → b ≠ t := by
  rintro h0 b off rfl
  rcases h.at_ with h1 | ⟨b', off', e, hlt, _⟩
  · omega
  · cases e; omega
/-- One result, held in a block. -/
theorem results_cell_mid {P : Program} {fn : Func} {p : Tmp} {ty : TypeId} (h : fn.results = #[.cell p ty]) (tmps : Array Value) (w : World) (t : Nat) (cs : List Value) (T : TypeId) (d : TypeDesc)
    (hp : tmps.getD p undef = .pointer (some ⟨t, 0, none⟩)) (hc : Blk w t cs T) (hu : P.underlying ty = some d) (hd : (match d with | .struct _ | .array _ _ => true | _ => false) = true) (hi : (P.info? ty).map (·.size) = some cs.length) :
    (results fn tmps).run P w = .ok (.agg cs.toArray) w :=
  results_cell_row h tmps w t T cs.toArray (0, 0) d hp hc.heap hu hd (by simpa using hi)
theorem results_cell_tmp_blk {P : Program} {fn : Func} {p u : Tmp} {ty : TypeId} (h : fn.results = #[.cell p ty, .tmp u]) (tmps : Array Value) (w : World) (t : Nat) (cs : List Value) (T : TypeId) (d : TypeDesc)
    (hp : tmps.getD p undef = .pointer (some ⟨t, 0, none⟩)) (hc : Blk w t cs T) (hu : P.underlying ty = some d) (hd : (match d with | .struct _ | .array _ _ => true | _ => false) = true) (hi : (P.info? ty).map (·.size) = some cs.length) :
    (results fn tmps).run P w = .ok (.tuple #[.agg cs.toArray, tmps.getD u undef]) w := by
  have hi' : (P.info? ty).map (·.size) = some cs.toArray.size := by simpa using hi
  rw [results_cell_tmp h, hp]
  simp [asAddr, Result.andThen, run_loadVar_row (P := P) w t T ty cs.toArray (0, 0) d hc.heap hu hd hi']
end Go.Proofs.YtbkchcpfnoclhaaGreat
