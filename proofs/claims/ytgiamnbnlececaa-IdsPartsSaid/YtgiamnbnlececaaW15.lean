/- Identifiers and their parts: what Make makes up again, and what its parts are. Plain facts. -/
import Derived.Test.YtgiamnbnlececaaW14
namespace Go.Proofs.Ytgiamnbnlececaa
open Go.RowKit
set_option linter.unusedVariables false

theorem bys_inj {a b : ByteArray} (h : bys a = bys b) : a = b := by
  apply ByteArray.ext
  apply Array.ext'
  unfold bys at h
  refine List.map_inj_right (f := fun c : UInt8 => (c.toNat : Int)) ?_ |>.1 h
  intro x y hxy
  apply UInt8.toNat_inj.1
  exact Int.ofNat.inj hxy
theorem srv_no58 {l : List Int} (h : I.isSrv l = true) : (58 : Int) ∉ l := by
  intro hm
  unfold I.isSrv I.isPart at h
  rw [Bool.and_eq_true, Bool.and_eq_true, List.all_eq_true] at h
  have := h.1.2 58 hm
  revert this
  decide
theorem col_mid {p q : List Int} (h : I.isSrv ((p ++ 58 :: q).drop (I.col (p ++ 58 :: q) + 1)) = true) : I.col (p ++ 58 :: q) = p.length := by
  have hlt : I.col (p ++ 58 :: q) < (p ++ 58 :: q).length := List.findIdx_lt_length.2 ⟨58, by simp, rfl⟩
  rcases Nat.lt_trichotomy (I.col (p ++ 58 :: q)) p.length with hc | hc | hc
  · exfalso
    apply srv_no58 h
    rw [List.drop_append_of_le_length (by omega)]
    simp
  · exact hc
  · exfalso
    apply (I.col_at hlt).2 p.length hc
    rw [List.getD_eq_getElem?_getD, List.getElem?_append_right (Nat.le_refl _)]
    simp
theorem mkd_back {m : Int} {p q : List Int} (hm : m ≠ 58) (h : I.mkd m (m :: (p ++ 58 :: q)) = true) : I.col (m :: (p ++ 58 :: q)) = p.length + 1 ∧ I.isLoc p = true ∧ I.isSrv q = true := by
  rw [mkd_cons hm, Bool.and_eq_true, Bool.and_eq_true] at h
  have hc := col_mid h.2.2
  have h1 := h.2.1
  have h2 := h.2.2
  rw [hc] at h1 h2
  refine ⟨by rw [I.col_cons _ hm, hc], ?_, ?_⟩
  · rwa [List.take_append_of_le_length (Nat.le_refl _), List.take_length] at h1
  · rwa [List.drop_append, List.drop_of_length_le (by omega), List.nil_append, show p.length + 1 - p.length = 1 by omega, List.drop_one, List.tail_cons] at h2
/-- Whatever Make makes without an error has the parts that were passed. -/
theorem make_parts {m : Int} (h0 : 0 ≤ m) (h1 : m ≤ 255) {a b : ByteArray} {n : Int} (hn : n ≠ 58) (h : I.mkd n (bys (mkS m a b)) = true) : n = m ∧ locP (mkS m a b) = a ∧ srvP (mkS m a b) = b ∧ I.isSrv (bys b) = true ∧ I.isLoc (bys a) = true := by
  have e := mkS_bys h0 h1 a b
  have hnm : n = m := by
    have := (I.mkd_iff.1 h).1.2.1
    rw [e] at this
    simpa using this.symm
  subst hnm
  rw [e] at h
  obtain ⟨hc, hl, hs⟩ := mkd_back hn h
  refine ⟨rfl, ?_, ?_, hs, hl⟩
  · apply bys_inj
    unfold locP
    rw [bys_extract, e, hc, List.take_succ_cons, List.drop_one, List.tail_cons, List.take_append_of_le_length (Nat.le_refl _), List.take_length]
  · apply bys_inj
    unfold srvP
    rw [bys_from, e, hc, List.drop_succ_cons, List.drop_append, List.drop_of_length_le (by omega), List.nil_append, show (bys a).length + 1 - (bys a).length = 1 by omega, List.drop_one, List.tail_cons]
/-- An identifier is made up again of its parts. -/
theorem parts_make {s : ByteArray} {m : Int} (h0 : 0 ≤ m) (h1 : m ≤ 255) (h : I.mkd m (bys s) = true) : mkS m (locP s) (srvP s) = s := by
  apply bys_inj
  rw [mkS_bys h0 h1]
  conv => rhs; rw [I.mkd_parts h]
  unfold locP srvP
  rw [bys_extract, bys_from]
theorem mkd_sizes {s : ByteArray} {m : Int} (h : I.mkd m (bys s) = true) : 1 ≤ (locP s).size ∧ (locP s).size ≤ 32 ∧ 1 ≤ (srvP s).size ∧ (srvP s).size ≤ 32 ∧ I.isSrv (bys (srvP s)) = true := by
  obtain ⟨_, h1, h2⟩ := I.mkd_iff.1 h
  have e1 : bys (locP s) = ((bys s).take (I.col (bys s))).drop 1 := by unfold locP; rw [bys_extract]
  have e2 : bys (srvP s) = (bys s).drop (I.col (bys s) + 1) := by unfold srvP; rw [bys_from]
  rw [← e1] at h1
  rw [← e2] at h2
  have l1 := I.isLoc_len h1
  have l2 := I.isSrv_len h2
  rw [bys_len] at l1 l2
  exact ⟨l1.1, l1.2, l2.1, l2.2, h2⟩
theorem any_of {s : ByteArray} (h : anyB s = true) : (I.mkd 64 (bys s) = true ∧ I.mkd 33 (bys s) = false) ∨ (I.mkd 64 (bys s) = false ∧ I.mkd 33 (bys s) = true) := by
  unfold anyB at h
  cases h1 : I.mkd 64 (bys s) <;> cases h2 : I.mkd 33 (bys s)
  · rw [h1, h2] at h; cases h
  · exact .inr ⟨rfl, rfl⟩
  · exact .inl ⟨rfl, rfl⟩
  · exact absurd (I.mkd_mark h1 h2) (by decide)
theorem toList_empty {s : ByteArray} (h : 1 ≤ s.size) : s.toList.isEmpty = false := by
  rw [Lib.toList_data]
  cases hl : s.data.toList with
  | nil => have := len_data s; rw [hl] at this; simp at this; omega
  | cons a l => rfl
end Go.Proofs.Ytgiamnbnlececaa
