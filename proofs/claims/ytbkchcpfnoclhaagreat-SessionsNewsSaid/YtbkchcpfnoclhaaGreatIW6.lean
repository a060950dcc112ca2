/- Lists of strings in the walks of identifiers: how they are read; Same, Find, Index. No condition. -/
import Derived.Test.YtbkchcpfnoclhaaGreatIW1
import Derived.Below
import Derived.Lib.Strings
import Derived.Deep.QuietTactic
import Derived.BigQuiet
import Derived.Sort.EncStr
namespace Go.Proofs.YtbkchcpfnoclhaaGreat
open Go.RowKit
set_option linter.unusedVariables false

theorem below_dn {B : Nat} {w w' : World} (h : Below B w w') (n : Nat) : Below B w (w'.drewN n) := ⟨h.os, h.tape, h.output, h.size, h.block⟩
/-- The slice of strings at a has len elements, which are ls; it lies below block B. -/
def StrsB (B : Nat) (w : World) (a : Option Addr) (len : Nat) (ls : List ByteArray) : Prop :=
  ls.length = len ∧ len ≤ 9223372036854775807 ∧ (∀ s ∈ ls, s.size ≤ 9223372036854775807) ∧
    (0 < len → ∃ b off, a = some ⟨b, off, none⟩ ∧ b < B ∧ ∀ i, i < len → w.cell? ⟨b, off + i, none⟩ = some (.string (ls.getD i ByteArray.empty)))
abbrev Strs (w : World) (a : Option Addr) (len : Nat) (ls : List ByteArray) : Prop := StrsB w.heap.size w a len ls
theorem StrsB.below {B B' : Nat} {w w' : World} {a : Option Addr} {len : Nat} {ls : List ByteArray} (h : StrsB B w a len ls) (hb : Below B' w w') (hB : B ≤ B') : StrsB B w' a len ls := by
  obtain ⟨h1, h2, h3, h4⟩ := h
  refine ⟨h1, h2, h3, fun h0 => ?_⟩
  obtain ⟨b, off, e, hl, hc⟩ := h4 h0
  exact ⟨b, off, e, hl, fun i hi => (hb.cell (p := ⟨b, off + i, none⟩) (Nat.lt_of_lt_of_le hl hB)).trans (hc i hi)⟩
theorem StrsB.mono {B B' : Nat} {w : World} {a : Option Addr} {len : Nat} {ls : List ByteArray} (h : StrsB B w a len ls) (hB : B ≤ B') : StrsB B' w a len ls := by
  obtain ⟨h1, h2, h3, h4⟩ := h
  refine ⟨h1, h2, h3, fun h0 => ?_⟩
  obtain ⟨b, off, e, hl, hc⟩ := h4 h0
  exact ⟨b, off, e, Nat.lt_of_lt_of_le hl hB, hc⟩
theorem Strs.below {w w' : World} {a : Option Addr} {len : Nat} {ls : List ByteArray} (h : Strs w a len ls) (hb : Below w.heap.size w w') : Strs w' a len ls :=
  (StrsB.below h hb (Nat.le_refl _)).mono hb.size
theorem StrsB.str {B : Nat} {w : World} {a : Option Addr} {len : Nat} {ls : List ByteArray} (h : StrsB B w a len ls) {k : Nat} (hk : k < len) :
    ∃ b off, a = some ⟨b, off, none⟩ ∧ ∃ t : ByteArray, t = ls.getD k ByteArray.empty ∧ t.size ≤ 9223372036854775807 ∧ b < B ∧ w.cell? ⟨b, off + k, none⟩ = some (.string t) := by
  obtain ⟨hl, _, hb, hc⟩ := h
  obtain ⟨b, off, ha, hlt, hc⟩ := hc (by omega)
  have hm : ls.getD k ByteArray.empty ∈ ls := by
    rw [List.getD_eq_getElem?_getD, List.getElem?_eq_getElem (by omega)]; simp
  exact ⟨b, off, ha, _, rfl, hb _ hm, hlt, hc k hk⟩
theorem StrsB.drop {B : Nat} {w : World} {a : Option Addr} {len cap : Nat} {ls : List ByteArray} (h : StrsB B w a len ls) (hc : len ≤ cap) (k : Nat) (hk : k ≤ len) :
    StrsB B w (if cap = k then a else a.map (·.add (k * 1))) (len - k) (ls.drop k) := by
  obtain ⟨h1, h2, h3, h4⟩ := h
  refine ⟨by rw [List.length_drop, h1], by omega, fun s hs => h3 s (List.mem_of_mem_drop hs), fun h0 => ?_⟩
  obtain ⟨b, off, rfl, hl, hx⟩ := h4 (by omega)
  rw [if_neg (by omega)]
  refine ⟨b, off + k, by simp [Addr.add], hl, fun i hi => ?_⟩
  rw [show off + k + i = off + (k + i) by omega, hx (k + i) (by omega), List.getD_eq_getElem?_getD, List.getD_eq_getElem?_getD, List.getElem?_drop]
theorem StrsB.take {B : Nat} {w : World} {a : Option Addr} {len : Nat} {ls : List ByteArray} (h : StrsB B w a len ls) (k : Nat) (hk : k ≤ len) : StrsB B w a k (ls.take k) := by
  obtain ⟨h1, h2, h3, h4⟩ := h
  refine ⟨by rw [List.length_take, h1]; omega, by omega, fun s hs => h3 s (List.mem_of_mem_take hs), fun h0 => ?_⟩
  obtain ⟨b, off, e, hl, hx⟩ := h4 (by omega)
  refine ⟨b, off, e, hl, fun i hi => ?_⟩
  rw [hx i (by omega), List.getD_eq_getElem?_getD, List.getD_eq_getElem?_getD, List.getElem?_take, if_pos hi]

/-- The texts. -/
def tx (ls : List ByteArray) : List I.Txt := ls.map fun s => s.data.toList
theorem tx_len (ls : List ByteArray) : (tx ls).length = ls.length := by unfold tx; simp
theorem tx_get {ls : List ByteArray} {k : Nat} (h : k < ls.length) : (tx ls).getD k [] = (ls.getD k ByteArray.empty).data.toList := by
  unfold tx
  rw [List.getD_eq_getElem?_getD, List.getD_eq_getElem?_getD, List.getElem?_map, List.getElem?_eq_getElem h]
  rfl
theorem tx_snoc {ls : List ByteArray} {k : Nat} (h : k < ls.length) : tx (ls.take (k + 1)) = tx (ls.take k) ++ [(ls.getD k ByteArray.empty).data.toList] := by
  unfold tx
  rw [List.take_succ_eq_append_getElem h, List.map_append, List.getD_eq_getElem?_getD, List.getElem?_eq_getElem h]
  rfl
theorem beq_tx (s t : ByteArray) : (s.toList == t.toList) = decide (s.data.toList = t.data.toList) := by
  rw [Lib.toList_data, Lib.toList_data]
  by_cases h : s.data.toList = t.data.toList
  · rw [h]; simp
  · rw [decide_eq_false h]; simpa using h
theorem tx_ne {l1 l2 : List ByteArray} {k : Nat} (h1 : k < l1.length) (h2 : k < l2.length) (h : ((l1.getD k ByteArray.empty).toList == (l2.getD k ByteArray.empty).toList) = false) : tx l1 ≠ tx l2 := by
  intro e
  rw [beq_tx, decide_eq_false_iff_not] at h
  rw [← tx_get h1, ← tx_get h2, e] at h
  exact h rfl
theorem tx_eq {l1 l2 : List ByteArray} (hl : l1.length = l2.length) (h : ∀ k, k < l1.length → ((l1.getD k ByteArray.empty).toList == (l2.getD k ByteArray.empty).toList) = true) : tx l1 = tx l2 := by
  apply List.ext_getElem (by rw [tx_len, tx_len, hl])
  intro k h1 h2
  rw [tx_len] at h1 h2
  have := h k h1
  rw [beq_tx, decide_eq_true_iff, ← tx_get h1, ← tx_get h2, List.getD_eq_getElem?_getD, List.getD_eq_getElem?_getD, List.getElem?_eq_getElem (by rw [tx_len]; exact h1), List.getElem?_eq_getElem (by rw [tx_len]; exact h2)] at this
  exact this

end Go.Proofs.YtbkchcpfnoclhaaGreat
