/- The walk of Names of the reference. Bounds: at most 1000000 texts. -/
import Derived.Test.YtbkchcpfnoclhaaGreatIW12
namespace Go.Proofs.YtbkchcpfnoclhaaGreat
open Go.RowKit Go.Maps Go.Proofs
set_option linter.unusedVariables false

/-- How many texts at the beginning are less. -/
def les (acc : List I.Txt) (x : I.Txt) : Nat := acc.findIdx fun y => !decide (y < x)
theorem les_le (acc : List I.Txt) (x : I.Txt) : les acc x ≤ acc.length := List.findIdx_le_length
theorem les_lt {acc : List I.Txt} {x : I.Txt} {j : Nat} (h : j < les acc x) : acc.getD j [] < x := by
  have hl := les_le acc x
  have := List.not_of_lt_findIdx (p := fun y => !decide (y < x)) h
  rw [List.getD_eq_getElem?_getD, List.getElem?_eq_getElem (by omega)]
  simpa using this
theorem les_at {acc : List I.Txt} {x : I.Txt} (h : les acc x < acc.length) : ¬ acc.getD (les acc x) [] < x := by
  have := List.findIdx_getElem (p := fun y => !decide (y < x)) (w := h)
  rw [List.getD_eq_getElem?_getD, List.getElem?_eq_getElem h]
  rw [Bool.not_eq_true', decide_eq_false_iff_not] at this
  exact this
theorem lt_of_not {a b : I.Txt} (h : ¬ a < b) (hn : a ≠ b) : b < a := by
  have : b ≤ a := List.not_lt.1 h
  exact Std.lt_of_le_of_ne this (Ne.symm hn)
/-- The row while it is shifted: all places above j hold what lay one below. -/
def shf (acc : List I.Txt) (j : Nat) : List I.Txt := (acc ++ [[]]).take (j + 1) ++ acc.drop j
theorem shf_end (acc : List I.Txt) : shf acc acc.length = acc ++ [[]] := by
  unfold shf
  rw [List.take_of_length_le (by simp), List.drop_length, List.append_nil]
theorem shf_len (acc : List I.Txt) {j : Nat} (h : j ≤ acc.length) : (shf acc j).length = acc.length + 1 := by
  unfold shf
  rw [List.length_append, List.length_take, List.length_drop, List.length_append, List.length_singleton]
  omega
theorem shf_get (acc : List I.Txt) {j : Nat} (h : j < acc.length) : (shf acc (j + 1)).getD j [] = acc.getD j [] := by
  unfold shf
  rw [List.getD_eq_getElem?_getD, List.getD_eq_getElem?_getD, List.getElem?_append_left (by rw [List.length_take, List.length_append, List.length_singleton]; omega), List.getElem?_take, if_pos (by omega), List.getElem?_append_left h]
theorem shf_step (acc : List I.Txt) {j : Nat} (h : j < acc.length) : (shf acc (j + 1)).set (j + 1) (acc.getD j []) = shf acc j := by
  unfold shf
  have e1 : ((acc ++ [[]]).take (j + 1 + 1)).length = j + 1 + 1 := by rw [List.length_take, List.length_append, List.length_singleton]; omega
  rw [List.set_append_left _ _ (by rw [e1]; omega)]
  have e2 : (acc ++ [[]]).take (j + 1 + 1) = (acc ++ [[]]).take (j + 1) ++ [(acc ++ [[]])[j + 1]'(by rw [List.length_append, List.length_singleton]; omega)] := List.take_succ_eq_append_getElem _
  have e3 : ((acc ++ [[]]).take (j + 1)).length = j + 1 := by rw [List.length_take, List.length_append, List.length_singleton]; omega
  rw [e2, List.set_append_right _ _ (by rw [e3]; omega), e3, Nat.sub_self, List.set_cons_zero, List.append_assoc]
  congr 1
  rw [List.drop_eq_getElem_cons h, List.getD_eq_getElem?_getD, List.getElem?_eq_getElem h]
  rfl
theorem shf_put (acc : List I.Txt) {k : Nat} (h : k ≤ acc.length) (x : I.Txt) : (shf acc k).set k x = acc.take k ++ x :: acc.drop k := by
  unfold shf
  have e3 : ((acc ++ [[]]).take k).length = k := by rw [List.length_take, List.length_append, List.length_singleton]; omega
  have e2 : (acc ++ [[]]).take (k + 1) = (acc ++ [[]]).take k ++ [(acc ++ [[]])[k]'(by rw [List.length_append, List.length_singleton]; omega)] := List.take_succ_eq_append_getElem _
  rw [e2, List.append_assoc, List.set_append_right _ _ (by rw [e3]; omega), e3, Nat.sub_self, List.singleton_append, List.set_cons_zero, List.take_append_of_le_length h]

theorem bytesLess_eq : ∀ (x y : List UInt8), Op.bytesLess x y = decide (x < y)
  | [], [] => by simp [Op.bytesLess]
  | _ :: _, [] => by simp [Op.bytesLess]
  | [], _ :: _ => by simp [Op.bytesLess]
  | a :: x, b :: y => by
    rw [Op.bytesLess, bytesLess_eq x y]
    simp only [List.cons_lt_cons_iff]
    by_cases h1 : a < b <;> by_cases h2 : a = b <;> by_cases h3 : x < y <;> simp [h1, h2, h3]
theorem less_tx (s t : ByteArray) : Op.bytesLess s.toList t.toList = decide (s.data.toList < t.data.toList) := by
  rw [bytesLess_eq, Lib.toList_data, Lib.toList_data]
theorem own_at {w : World} {B n g c : Nat} {acc : List I.Txt} (h : w.ownsRow B 9 1 (.slice (some ⟨g, 0, none⟩) n c) n (acc.map encStr)) {k : Nat} (hk : k < n) (hl : acc.length = n) : ∃ y : ByteArray, y.data.toList = acc.getD k [] ∧ w.cell? ⟨g, k, none⟩ = some (.string y) := by
  refine ⟨⟨(acc.getD k []).toArray⟩, by simp, ?_⟩
  rw [h.cellAt k (by omega), List.getElem?_map, List.getElem?_eq_getElem (by omega), List.getD_eq_getElem?_getD, List.getElem?_eq_getElem (by omega)]
  rfl
/-- One append of a text to a row of the call's own; the new slice is written out. -/
theorem app_some {w : World} {ops : Array Oper} {rest : List Oper} {o : Oper} {a : Act} {Q : Exit → Act → World → Prop} (hgd : o.guard = none) (s x : Operand)
    (ho : o.op = .call { callee := .builtin .append, args := #[s, x], argTypes := #[56, 56] }) {B n : Nat}
    (v : Value) (acc : List I.Txt) (hs : a.eval s = v) (hown : w.ownsRow B 9 1 v n (acc.map encStr)) (hB : B ≤ w.heap.size)
    (g : Nat) (t : ByteArray) (hx : a.eval x = .slice (some ⟨g, 0, none⟩) 1 1) (hc : ∀ (j : Nat) (u : Value), [Value.string t][j]? = some u → w.cell? ((⟨g, 0, none⟩ : Addr).add j) = some u) (hn : n ≤ 1000000)
    (h : ∀ g' c w', w'.ownsRow B 9 1 (.slice (some ⟨g', 0, none⟩) (n + 1) c) (n + 1) ((acc ++ [t.data.toList]).map encStr) → Below B w w' → wpList Tryz.prog ops Q rest (a.put o.dst (.slice (some ⟨g', 0, none⟩) (n + 1) c)) w') : wpList Tryz.prog ops Q (o :: rest) a w := by
  refine app_one hgd s x ho v _ hs hown hB g t hx hc hn ?_
  intro A c w' hr hg
  have hb : Below B w w' := (Below.refl B w).grown hg hB (fun k hk => (hown.lt k hk).1)
  have e : (acc ++ [t.data.toList]).map encStr = acc.map encStr ++ [.string t] := by
    rw [List.map_append, List.map_singleton]
  rw [← e] at hr
  obtain ⟨g', rfl⟩ : ∃ g', A = some ⟨g', 0, none⟩ := by
    rcases hr.2 with ⟨_, h0⟩ | ⟨g', cap, cur, hv, _⟩
    · omega
    · injection hv with h1 h2 h3; exact ⟨g', h1⟩
  exact h g' c w' hr hb
/-- What stands after one text more. -/
theorem ins_mem {acc : List I.Txt} {l : List I.Txt} {x : I.Txt} {k : Nat} (h : ∀ y, y ∈ acc ↔ y ∈ l) : ∀ y, y ∈ acc.take k ++ x :: acc.drop k ↔ y ∈ l ++ [x] := by
  intro y
  rw [I.mem_put, h, List.mem_append, List.mem_singleton]
  exact or_comm
theorem old_mem {acc : List I.Txt} {l : List I.Txt} {x : I.Txt} (h : ∀ y, y ∈ acc ↔ y ∈ l) (hx : x ∈ acc) : ∀ y, y ∈ acc ↔ y ∈ l ++ [x] := by
  intro y
  rw [List.mem_append, List.mem_singleton, ← h]
  constructor
  · exact .inl
  · rintro (h | rfl)
    · exact h
    · exact hx

theorem shf_len' {acc : List I.Txt} {n j : Nat} (h : acc.length = n) (hj : j ≤ n) : (shf acc j).length = n + 1 := by rw [shf_len acc (by omega), h]
end Go.Proofs.YtbkchcpfnoclhaaGreat
