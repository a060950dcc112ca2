/- Slices of structs, read: rows of cells, one behind the other. No condition on the program. -/
import Derived.Test.YtbkchcpfnoclhaaGreatG2
import Derived.Lib.SmallJoins
namespace Go.Proofs.YtbkchcpfnoclhaaGreat
open Go.RowKit
set_option linter.unusedVariables false

/-- The slice at `A`, of `n` elements of `sz` cells; element `j` is `L j`. -/
structure Rws (w : World) (A : Option Addr) (n c sz : Nat) (L : Nat → List Value) : Prop where
  len : ∀ j, j < n → (L j).length = sz
  one : ∀ j, j < n → ∀ u ∈ L j, u.oneCell' = true
  big : n ≤ maxLen
  nil : A = none → n = 0 ∧ c = 0
  at_ : n = 0 ∨ ∃ b off, A = some ⟨b, off, none⟩ ∧ b < w.heap.size ∧ ∀ j, j < n → ∀ i v, (L j)[i]? = some v → w.cell? ⟨b, off + j * sz + i, none⟩ = some v
theorem Rws.below {w w1 : World} {A : Option Addr} {n c sz : Nat} {L : Nat → List Value} (h : Rws w A n c sz L) (hb : Below w.heap.size w w1) : Rws w1 A n c sz L :=
  ⟨h.len, h.one, h.big, h.nil, h.at_.imp id fun ⟨b, off, e, hlt, hc⟩ => ⟨b, off, e, Nat.lt_of_lt_of_le hlt hb.size, fun j hj i v hv => (hb.cell (p := ⟨b, off + j * sz + i, none⟩) hlt).trans (hc j hj i v hv)⟩⟩
theorem Rws.get {w : World} {A : Option Addr} {n c sz : Nat} {L : Nat → List Value} (h : Rws w A n c sz L) {j : Nat} (hj : j < n) :
    ∃ b off, A = some ⟨b, off, none⟩ ∧ b < w.heap.size ∧ World.rangeAt w b (off + j * sz) (L j) := by
  rcases h.at_ with h0 | ⟨b, off, e, hlt, hc⟩
  · omega
  · exact ⟨b, off, e, hlt, fun i v hv => hc j hj i v hv⟩
theorem Rws.congr {w : World} {A : Option Addr} {n c sz : Nat} {L M : Nat → List Value} (h : Rws w A n c sz L) (e : ∀ j, j < n → M j = L j) : Rws w A n c sz M :=
  ⟨fun j hj => by rw [e j hj]; exact h.len j hj, fun j hj => by rw [e j hj]; exact h.one j hj, h.big, h.nil, h.at_.imp id fun ⟨b, off, e', hlt, hc⟩ => ⟨b, off, e', hlt, fun j hj => by rw [e j hj]; exact hc j hj⟩⟩
theorem Rws.zero (w : World) (A : Option Addr) (c sz : Nat) (L : Nat → List Value) (h : A = none → c = 0) : Rws w A 0 c sz L :=
  ⟨fun j hj => absurd hj (Nat.not_lt_zero _), fun j hj => absurd hj (Nat.not_lt_zero _), Nat.zero_le _, fun e => ⟨rfl, h e⟩, .inl rfl⟩

/-- All cells, one behind the other. -/
def flat (n : Nat) (L : Nat → List Value) : List Value := (List.range n).flatMap L
theorem flat_succ (n : Nat) (L : Nat → List Value) : flat (n + 1) L = flat n L ++ L n := by
  unfold flat
  rw [List.range_succ, List.flatMap_append]
  simp
theorem flat_zero (L : Nat → List Value) : flat 0 L = [] := rfl
theorem flat_len {n sz : Nat} {L : Nat → List Value} (h : ∀ j, j < n → (L j).length = sz) : (flat n L).length = n * sz := by
  induction n with
  | zero => simp [flat]
  | succ n ih => rw [flat_succ, List.length_append, ih fun j hj => h j (by omega), h n (by omega), Nat.succ_mul]
theorem flat_get {n sz : Nat} {L : Nat → List Value} (h : ∀ j, j < n → (L j).length = sz) {j i : Nat} (hj : j < n) (hi : i < sz) : (flat n L)[j * sz + i]? = (L j)[i]? := by
  induction n with
  | zero => omega
  | succ n ih =>
    have hl := flat_len (n := n) (L := L) fun j hj => h j (by omega)
    rw [flat_succ]
    by_cases e : j = n
    · subst e
      rw [List.getElem?_append_right (by omega), hl]
      congr 1
      omega
    · have hjn : j < n := by omega
      have : j * sz + i < n * sz := by
        have : (j + 1) * sz ≤ n * sz := Nat.mul_le_mul_right _ hjn
        rw [Nat.succ_mul] at this
        omega
      rw [List.getElem?_append_left (by omega)]
      exact ih (fun j hj => h j (by omega)) hjn
theorem flat_at {n sz : Nat} {L : Nat → List Value} (h : ∀ j, j < n → (L j).length = sz) {k : Nat} {u : Value} (hk : (flat n L)[k]? = some u) : ∃ j i, j < n ∧ i < sz ∧ k = j * sz + i ∧ (L j)[i]? = some u := by
  have hlt : k < n * sz := by rw [← flat_len h]; exact (List.getElem?_eq_some_iff.1 hk).1
  have hsz : 0 < sz := by
    rcases Nat.eq_zero_or_pos sz with h0 | h0
    · rw [h0, Nat.mul_zero] at hlt; omega
    · exact h0
  have hj : k / sz < n := (Nat.div_lt_iff_lt_mul hsz).2 hlt
  have hi : k % sz < sz := Nat.mod_lt _ hsz
  have e : k = k / sz * sz + k % sz := by rw [Nat.mul_comm]; exact (Nat.div_add_mod k sz).symm
  refine ⟨k / sz, k % sz, hj, hi, e, ?_⟩
  rw [← flat_get h hj hi, ← e]
  exact hk
theorem flat_congr {n : Nat} {L M : Nat → List Value} (e : ∀ j, j < n → M j = L j) : flat n M = flat n L := by
  induction n with
  | zero => rfl
  | succ n ih => rw [flat_succ, flat_succ, ih fun j hj => e j (by omega), e n (by omega)]
theorem flat_one {n : Nat} {L : Nat → List Value} (h : ∀ j, j < n → ∀ u ∈ L j, u.oneCell' = true) : ∀ u ∈ flat n L, u.oneCell' = true := by
  intro u hu
  obtain ⟨j, hj, hu⟩ := List.mem_flatMap.1 hu
  exact h j (List.mem_range.1 hj) u hu

theorem Rws.src {w : World} {A : Option Addr} {n c sz : Nat} {L : Nat → List Value} (h : Rws w A n c sz L) : Src w A n c sz (flat n L) := by
  refine ⟨flat_len h.len, h.nil, h.at_.imp id fun ⟨b, off, e, hlt, hc⟩ => ⟨b, off, e, hlt, fun k u hu => ?_⟩, flat_one h.one⟩
  obtain ⟨j, i, hj, hi, rfl, hv⟩ := flat_at h.len hu
  rw [← Nat.add_assoc]
  exact hc j hj i u hv
/-- A row of the call's own is read so. -/
theorem own_rows {w : World} {B : Nat} {e : TypeId} {sz : Nat} {A : Option Addr} {n c : Nat} {L : Nat → List Value} (h : w.ownsRow B e sz (.slice A n c) n (flat n L)) (hl : ∀ j, j < n → (L j).length = sz)
    (h1 : ∀ j, j < n → ∀ u ∈ L j, u.oneCell' = true) (hm : n ≤ maxLen) : Rws w A n c sz L := by
  refine ⟨hl, h1, hm, fun e => ?_, ?_⟩
  · rcases h.2 with ⟨hv, h0⟩ | ⟨g, cap, cur, hv, _⟩
    · simp only [Value.slice.injEq] at hv; exact ⟨h0, hv.2.2⟩
    · simp only [Value.slice.injEq] at hv; rw [e] at hv; cases hv.1
  · rcases h.2 with ⟨_, h0⟩ | ⟨g, cap, cur, hv, _, hg, _⟩
    · exact .inl h0
    · simp only [Value.slice.injEq] at hv
      obtain ⟨rfl, _, rfl⟩ := hv
      refine .inr ⟨g, 0, rfl, (h.lt g rfl).2, fun j hj i v hv => ?_⟩
      have hi : i < sz := by rw [← hl j hj]; exact (List.getElem?_eq_some_iff.1 hv).1
      have hk : j * sz + i < n * sz := by
        have : (j + 1) * sz ≤ n * sz := Nat.mul_le_mul_right _ hj
        rw [Nat.succ_mul] at this
        omega
      rw [Nat.zero_add, h.cellAt _ hk, flat_get hl hj hi]
      exact hv
/-- A value that owns a row is a slice. -/
theorem own_slice {w : World} {B : Nat} {e : TypeId} {sz n : Nat} {v : Value} {xs : List Value} (h : w.ownsRow B e sz v n xs) : ∃ A c, v = .slice A n c := by
  rcases Joins.ownsRow_forms h with ⟨rfl, rfl⟩ | ⟨g, cap, rfl⟩
  · exact ⟨none, 0, rfl⟩
  · exact ⟨_, _, rfl⟩
/-- It survives whatever leaves the blocks below the heap's end alone. -/
theorem own_below {w w1 : World} {B : Nat} {e : TypeId} {sz n : Nat} {v : Value} {xs : List Value} (h : w.ownsRow B e sz v n xs) (hb : Below w.heap.size w w1) : w1.ownsRow B e sz v n xs := by
  refine ⟨h.1, h.2.imp id fun ⟨g, cap, cur, e, hg, hx, r⟩ => ⟨g, cap, cur, e, hg, ?_, r⟩⟩
  rw [hb.block g (by rcases Nat.lt_or_ge g w.heap.size with h | h; exact h; rw [Array.getElem?_eq_none h] at hx; cases hx)]
  exact hx
/-- A copy in new memory. -/
structure CopyR (w w' : World) (e : TypeId) (sz n : Nat) (L : Nat → List Value) (A : Option Addr) (c : Nat) : Prop where
  own : w'.ownsRow w.heap.size e sz (.slice A n c) n (flat n L)
  bel : Below w.heap.size w w'
theorem CopyR.rows {w w' : World} {e : TypeId} {sz n c : Nat} {L : Nat → List Value} {A : Option Addr} (h : CopyR w w' e sz n L A c) {A0 : Option Addr} {c0 : Nat} {w0 : World} (h0 : Rws w0 A0 n c0 sz L) : Rws w' A n c sz L :=
  own_rows h.own h0.len h0.one h0.big
end Go.Proofs.YtbkchcpfnoclhaaGreat
