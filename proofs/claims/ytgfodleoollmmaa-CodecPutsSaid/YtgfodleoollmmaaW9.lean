/- Lists in the codec: what is read, one element after the other, and rows that the call made. No condition. -/
import Derived.Test.YtgfodleoollmmaaW8
namespace Go.Proofs.Ytgfodleoollmmaa
open Go.RowKit
set_option linter.unusedVariables false

/-- n elements, one behind the other. -/
def lst {α : Type} (one : List Int → Option (α × List Int)) : Nat → List Int → Option (List α × List Int)
  | 0, zs => some ([], zs)
  | n + 1, zs => (one zs).bind fun p => (lst one n p.2).map fun q => (p.1 :: q.1, q.2)
/-- k of n elements are read: xs; r is left. -/
structure Prg {α : Type} (one : List Int → Option (α × List Int)) (n : Nat) (zs : List Int) (k : Nat) (xs : List α) (r : List Int) : Prop where
  le : k ≤ n
  sz : xs.length = k
  rl : r.length ≤ zs.length
  eq : lst one n zs = (lst one (n - k) r).map fun q => (xs ++ q.1, q.2)
section
variable {α : Type} {one : List Int → Option (α × List Int)} {n k : Nat} {zs r r' : List Int} {xs : List α} {x : α}
theorem prg_zero : Prg one n zs 0 [] zs := ⟨Nat.zero_le _, rfl, Nat.le_refl _, by
  rw [Nat.sub_zero]
  cases h : lst one n zs <;> simp⟩
theorem prg_none (h : Prg one n zs k xs r) (hk : k < n) (hr : one r = none) : lst one n zs = none := by
  rw [h.eq, show n - k = (n - k - 1) + 1 by omega]; simp [lst, hr]
theorem prg_some (h : Prg one n zs k xs r) (hk : k < n) (hr : one r = some (x, r')) (hl : r'.length ≤ r.length) : Prg one n zs (k + 1) (xs ++ [x]) r' :=
  ⟨hk, by simp [h.sz], Nat.le_trans hl h.rl, by
    rw [h.eq, show n - k = (n - (k + 1)) + 1 by omega]
    simp only [lst, hr, Option.bind_some, Option.map_map]
    cases h : lst one (n - (k + 1)) r' <;> simp⟩
theorem prg_end (h : Prg one n zs n xs r) : lst one n zs = some (xs, r) := by rw [h.eq, Nat.sub_self]; simp [lst]
end

/-- What a function that reads a list leaves. -/
def GotL {α : Type} (I : World → Option Addr → Nat → Nat → List α → Prop) (r : Option (List α × List Int)) (w : World) (e : Ending) (w' : World) : Prop :=
  Below w.heap.size w w' ∧ match r with
  | none => e = .returned (.tuple #[.slice none 0 0, .slice none 0 0, .bool false])
  | some (xs, rest) => ∃ A c A2 c2, e = .returned (.tuple #[.slice A xs.length c, .slice A2 rest.length c2, .bool true]) ∧ I w' A xs.length c xs ∧ Sl w' A2 rest.length c2 rest
section
variable {α : Type} {I : World → Option Addr → Nat → Nat → List α → Prop} {r : Option (List α × List Int)} {w w' : World} {e : Ending} {xs : List α} {rest : List Int}
theorem gotl_no (h : GotL I r w e w') (hr : r = none) : e = .returned (.tuple #[.slice none 0 0, .slice none 0 0, .bool false]) ∧ Below w.heap.size w w' := by
  subst hr
  exact ⟨h.2, h.1⟩
theorem gotl_yes (h : GotL I r w e w') (hr : r = some (xs, rest)) :
    ∃ A c A2 c2, e = .returned (.tuple #[.slice A xs.length c, .slice A2 rest.length c2, .bool true]) ∧ I w' A xs.length c xs ∧ Sl w' A2 rest.length c2 rest ∧ Below w.heap.size w w' := by
  subst hr
  obtain ⟨hb, A, c, A2, c2, he, hi, hs⟩ := h
  exact ⟨A, c, A2, c2, he, hi, hs, hb⟩
theorem gotl_none (h : r = none) (hb : Below w.heap.size w w') : GotL I r w (.returned (.tuple #[.slice none 0 0, .slice none 0 0, .bool false])) w' := by
  subst h
  exact ⟨hb, rfl⟩
theorem gotl_some {A A2 : Option Addr} {n c n2 c2 : Nat} (h : r = some (xs, rest)) (hn : n = xs.length) (hn2 : n2 = rest.length) (hi : I w' A n c xs) (hs : Sl w' A2 n2 c2 rest) (hb : Below w.heap.size w w') :
    GotL I r w (.returned (.tuple #[.slice A n c, .slice A2 n2 c2, .bool true])) w' := by
  subst h hn hn2
  exact ⟨hb, A, c, A2, c2, rfl, hi, hs⟩
end

theorem row_keep {w w' : World} {B n : Nat} {e : TypeId} {v : Value} {vs : List Value} (h : w.ownsRow B e 1 v n vs) (hb : Below w.heap.size w w') : w'.ownsRow B e 1 v n vs := by
  rcases h.2 with ⟨rfl, h0⟩ | ⟨g, cap, cur, rfl, hbg, hg, hnc, hcm, hcs, htk⟩
  · exact ⟨h.1, .inl ⟨rfl, h0⟩⟩
  · exact ⟨h.1, .inr ⟨g, cap, cur, rfl, hbg, (hb.block g (lt_of_block hg)).trans hg, hnc, hcm, hcs, htk⟩⟩
/-- A slice of bytes does not lie in a row of other cells: a store there leaves it. -/
theorem sl_stored {w : World} {A : Option Addr} {len cap : Nat} {zs : List Int} (h : Sl w A len cap zs) {B n : Nat} {e : TypeId} {g : Nat} {vs : List Value} (ho : w.ownsRow B e 1 (.slice (some ⟨g, 0, none⟩) n n) n vs)
    (hne : ∀ v ∈ vs, ∀ z, v ≠ Value.int .u8 z) (j : Nat) (u : Value) : Sl (w.setCell ⟨g, j, none⟩ u) A len cap zs := by
  refine ⟨h.sz, h.bd, h.le, h.nl, fun h0 => ?_⟩
  obtain ⟨b, off, ea, hl, hc⟩ := h.cell h0
  have hbg : b ≠ g := by
    rintro rfl
    have h1 := hc 0 h0
    rcases ho.2 with ⟨h', _⟩ | ⟨g', cap', cur, h', _, hg, _, _, hcs, htake⟩
    · simp at h'
    · simp only [Value.slice.injEq, Option.some.injEq, Addr.mk.injEq, and_true, true_and] at h'
      obtain ⟨rfl, rfl⟩ := h'
      rw [cell_of_row w b (off + 0) cur e (0, 0) hg] at h1
      have hall : cur.toList = vs := by rw [← htake, List.take_of_length_le (by rw [Array.length_toList, hcs]; exact Nat.le_refl _)]
      have hm : Value.int .u8 (zs.getD 0 0) ∈ vs := by
        rw [← hall]
        exact Array.mem_toList_iff.2 (Array.mem_of_getElem? h1)
      exact hne _ hm _ rfl
  refine ⟨b, off, ea, by simpa [World.setCell] using hl, fun i hi => ?_⟩
  rw [World.cell?_of_block (w := w) (Below.heap_setCell w ⟨g, j, none⟩ u b hbg)]
  exact hc i hi
theorem row_set {α : Type} (emb : α → Value) (d : α) {xs : List α} {n k : Nat} (z : α) (hk : k < n) (hs : xs.length = k) : ((xs ++ List.replicate (n - k) d).map emb).set k (emb z) = ((xs ++ [z]) ++ List.replicate (n - (k + 1)) d).map emb := by
  subst hs
  rw [show n - xs.length = (n - (xs.length + 1)) + 1 by omega, List.replicate_succ, List.map_append, List.set_append_right _ _ (by simp)]
  simp
theorem row_cell {α : Type} (emb : α → Value) (d : α) {xs : List α} {n k : Nat} {w : World} {B g : Nat} {e : TypeId} (h : w.ownsRow B e 1 (.slice (some ⟨g, 0, none⟩) n n) n ((xs ++ List.replicate (n - k) d).map emb)) (hk : k < n) (hs : xs.length = k) : w.cell? ⟨g, k, none⟩ = some (emb d) := by
  rw [h.cellAt k (by omega), List.getElem?_map, List.getElem?_append_right (by omega), hs, Nat.sub_self, List.getElem?_replicate_of_lt (by omega)]
  rfl
theorem row_step {α : Type} (emb : α → Value) (d : α) {xs : List α} {n k : Nat} {w : World} {B g : Nat} {e : TypeId} (h : w.ownsRow B e 1 (.slice (some ⟨g, 0, none⟩) n n) n ((xs ++ List.replicate (n - k) d).map emb)) (z : α) (hk : k < n) (hs : xs.length = k) :
    (w.setCell ⟨g, k, none⟩ (emb z)).ownsRow B e 1 (.slice (some ⟨g, 0, none⟩) n n) n (((xs ++ [z]) ++ List.replicate (n - (k + 1)) d).map emb) := by
  have := (h.stored k (emb z)).1
  rwa [row_set emb d z hk hs] at this
theorem map_ne {α : Type} {emb : α → Value} (he : ∀ x z, emb x ≠ Value.int .u8 z) (l : List α) : ∀ v ∈ l.map emb, ∀ z, v ≠ Value.int .u8 z := by
  intro v hv z
  obtain ⟨x, _, rfl⟩ := List.mem_map.1 hv
  exact he x z
end Go.Proofs.Ytgfodleoollmmaa
