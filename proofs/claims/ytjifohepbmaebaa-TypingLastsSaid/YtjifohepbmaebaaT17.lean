/- Who types: right lists: what Check demands, and that it lasts. No condition. -/
import Derived.Test.YtjifohepbmaebaaT15
import Derived.Test.YtjifohepbmaebaaIW13
namespace Go.Proofs.Ytjifohepbmaebaa
open Go.RowKit
set_option linter.unusedVariables false

def key (p : Tp) : List UInt8 := p.1.toList
def okT (p : Tp) : Prop := I.mkd 64 (bys p.1) = true ∧ ¬ (p.2 < 1 ∨ 1000030000 < p.2)
/-- A right list. -/
structure Right (zs : List Tp) : Prop where
  ok : ∀ p ∈ zs, okT p
  up : (zs.map key).Pairwise (· < ·)
theorem tri {a b : List UInt8} (h : ¬ a < b) (hne : a ≠ b) : b < a := by
  by_cases h2 : b < a
  · exact h2
  · exact absurd (List.le_antisymm (List.not_lt.1 h2) (List.not_lt.1 h)) hne
theorem leS_false {a b : ByteArray} : leS a b = false ↔ b.toList < a.toList := by
  unfold leS
  rw [bytesLess_eq, Bool.or_eq_false_iff, decide_eq_false_iff_not, beq_eq_false_iff_ne]
  constructor
  · rintro ⟨h1, h2⟩; exact tri h1 h2
  · intro h; exact ⟨List.lt_asymm h, fun e => by rw [e] at h; exact List.lt_irrefl _ h⟩
theorem pu_iff {s : ByteArray} {p : Tp} : pu s p = true ↔ key p = s.toList := by unfold pu key; rw [beq_iff_eq]
theorem pb_iff {s : ByteArray} {p : Tp} : pb s p = true ↔ s.toList < key p := by
  unfold pb key
  rw [bytesLess_eq, Bool.and_eq_true, Bool.not_eq_true', Bool.not_eq_true', decide_eq_false_iff_not, beq_eq_false_iff_ne]
  constructor
  · rintro ⟨h1, h2⟩; exact tri h1 h2
  · intro h; exact ⟨List.lt_asymm h, fun e => by rw [e] at h; exact List.lt_irrefl _ h⟩
theorem getD_at {zs : List Tp} {j : Nat} (h : j < zs.length) : zs.getD j t0 = zs[j] := by rw [List.getD_eq_getElem?_getD, List.getElem?_eq_getElem h]; rfl
theorem chk_steps {zs : List Tp} {n : Nat} (h : chk zs n = 0) : ∀ j, j < n → stepE zs j = 0 := by
  intro j hj
  unfold chk at h
  cases hf : ((List.range n).map (stepE zs)).find? (fun r => r != 0) with
  | none =>
    have := List.find?_eq_none.1 hf (stepE zs j) (List.mem_map.2 ⟨j, by simpa using hj, rfl⟩)
    simpa using this
  | some r =>
    rw [hf] at h
    have := List.find?_some hf
    simp at h this
    exact absurd h this
theorem right_of_chk {zs : List Tp} (h : chk zs zs.length = 0) : Right zs := by
  have hs := chk_steps h
  have ho : ∀ j (hj : j < zs.length), okT zs[j] ∧ ∀ h0 : 0 < j, key (zs[j - 1]'(by omega)) < key zs[j] := by
    intro j hj
    have h1 := hs j hj
    unfold stepE at h1
    rw [getD_at hj] at h1
    split at h1
    · cases h1
    · rename_i hu
      split at h1
      · cases h1
      · rename_i hr
        split at h1
        · cases h1
        · rename_i hk
          refine ⟨⟨by cases hb : I.mkd 64 (bys zs[j].1) with | true => rfl | false => exact absurd hb hu, hr⟩, fun h0 => ?_⟩
          rw [getD_at (show j - 1 < zs.length by omega)] at hk
          cases hl : leS zs[j].1 zs[j - 1].1 with
          | true => exact absurd ⟨h0, hl⟩ hk
          | false => exact leS_false.1 hl
  refine ⟨fun p hp => ?_, ?_⟩
  · obtain ⟨j, hj, rfl⟩ := List.getElem_of_mem hp
    exact (ho j hj).1
  · rw [List.pairwise_map, List.pairwise_iff_getElem]
    intro i j hi hj hij
    induction j with
    | zero => omega
    | succ j ih =>
      have h1 := (ho (j + 1) hj).2 (by omega)
      simp only [Nat.add_sub_cancel] at h1
      rcases Nat.lt_or_ge i j with h2 | h2
      · exact List.lt_trans (ih (by omega) h2) h1
      · obtain rfl : i = j := by omega
        exact h1
theorem chk_of_right {zs : List Tp} {n : Nat} (hn : n = zs.length) (h : Right zs) : chk zs n = 0 := by
  subst hn
  refine chk_no fun j hj => ?_
  obtain ⟨o1, o2⟩ := h.ok _ (List.getElem_mem hj)
  refine stepE_zero (by rw [getD_at hj]; exact o1) (by rw [getD_at hj]; exact o2) ?_
  rintro ⟨h0, hl⟩
  rw [getD_at hj, getD_at (show j - 1 < zs.length by omega)] at hl
  have h1 := h.up
  rw [List.pairwise_map, List.pairwise_iff_getElem] at h1
  have h2 := h1 (j - 1) j (by omega) hj (by omega)
  rw [leS_false.2 h2] at hl
  cases hl
theorem Right.filter {zs : List Tp} (h : Right zs) (q : Tp → Bool) : Right (zs.filter q) :=
  ⟨fun p hp => h.ok p (List.mem_filter.1 hp).1, by
    have h1 := h.up
    rw [List.pairwise_map] at h1 ⊢
    exact h1.filter q⟩
theorem Right.set {zs : List Tp} (h : Right zs) {k : Nat} {x : Tp} (hx : okT x) (hk : ∀ h : k < zs.length, key zs[k] = key x) : Right (zs.set k x) := by
  refine ⟨fun p hp => ?_, ?_⟩
  · rcases List.mem_or_eq_of_mem_set hp with h1 | h1
    · exact h.ok p h1
    · rw [h1]; exact hx
  · have e : (zs.set k x).map key = zs.map key := by
      apply List.ext_getElem
      · simp
      · intro i h1 h2
        simp only [List.getElem_map, List.getElem_set]
        split
        · rename_i e; subst e
          rw [hk]
        · rfl
    rw [e]; exact h.up
theorem findIdx_pb {s : ByteArray} {zs : List Tp} : ∀ p ∈ zs.take (zs.findIdx (pb s)), pb s p = false := by
  intro p hp
  obtain ⟨j, hj, rfl⟩ := List.getElem_of_mem hp
  rw [List.getElem_take]
  rw [List.length_take] at hj
  exact List.not_of_lt_findIdx (by omega)
theorem Right.ins {zs : List Tp} (h : Right zs) {x : Tp} (hx : okT x) (hno : ∀ p ∈ zs, pu x.1 p = false) : Right (ins x.1 x zs) := by
  have hu := h.up
  rw [List.pairwise_map] at hu
  have hsp : zs = zs.take (zs.findIdx (pb x.1)) ++ zs.drop (zs.findIdx (pb x.1)) := (List.take_append_drop _ _).symm
  have hu2 := hu
  rw [hsp, List.pairwise_append] at hu2
  obtain ⟨u1, u2, u3⟩ := hu2
  have hlo : ∀ p ∈ zs.take (zs.findIdx (pb x.1)), key p < key x := by
    intro p hp
    have h1 := findIdx_pb p hp
    have h2 := hno p (List.mem_of_mem_take hp)
    have h3 : ¬ x.1.toList < key p := fun h => by rw [pb_iff.2 h] at h1; cases h1
    have h4 : key p ≠ x.1.toList := fun h => by rw [pu_iff.2 h] at h2; cases h2
    exact tri h3 (fun e => h4 e.symm)
  have hhi : ∀ p ∈ zs.drop (zs.findIdx (pb x.1)), key x < key p := by
    intro p hp
    obtain ⟨j, hj, rfl⟩ := List.getElem_of_mem hp
    rw [List.length_drop] at hj
    have hk : zs.findIdx (pb x.1) < zs.length := by omega
    have h1 : key x < key zs[zs.findIdx (pb x.1)] := pb_iff.1 (List.findIdx_getElem (w := hk))
    rw [List.getElem_drop]
    rcases Nat.eq_zero_or_pos j with h0 | h0
    · subst h0; simpa using h1
    · rw [List.pairwise_iff_getElem] at hu
      exact List.lt_trans h1 (hu _ _ hk (by omega) (by omega))
  refine ⟨fun p hp => ?_, ?_⟩
  · unfold Ytjifohepbmaebaa.ins at hp
    rcases List.mem_append.1 hp with h1 | h1
    · exact h.ok p (List.mem_of_mem_take h1)
    · rcases List.mem_cons.1 h1 with h2 | h2
      · rw [h2]; exact hx
      · exact h.ok p (List.mem_of_mem_drop h2)
  · unfold Ytjifohepbmaebaa.ins
    rw [List.pairwise_map, List.pairwise_append, List.pairwise_cons]
    refine ⟨u1, ⟨hhi, u2⟩, fun a ha b hb => ?_⟩
    rcases List.mem_cons.1 hb with h2 | h2
    · rw [h2]; exact hlo a ha
    · exact u3 a ha b h2
theorem ert_zero {s : ByteArray} {now span : Int} (h : ert s now span = 0) : I.mkd 64 (bys s) = true ∧ okR now span := by
  unfold ert at h
  split at h
  · rename_i hu
    split at h
    · rename_i hr; exact ⟨hu, hr⟩
    · cases h
  · cases h
theorem okT_new {s : ByteArray} {now span : Int} (h : ert s now span = 0) : okT (s, now + span) := by
  obtain ⟨hu, h1, h2, h3, h4⟩ := ert_zero h
  exact ⟨hu, by simp only; omega⟩
theorem Right.put {zs : List Tp} (h : Right zs) {x : Tp} (hx : okT x) : Right (putT x zs) := by
  rcases fidx_cases (pu x.1) zs with ⟨e, hno⟩ | ⟨k, hk, e, hq, _⟩
  · rw [putT_none e]; exact h.ins hx hno
  · rw [putT_some e]
    exact h.set hx fun _ => by rw [getD_at hk] at hq; exact pu_iff.1 hq
theorem Right.out {zs : List Tp} (h : Right zs) {s : ByteArray} {now span : Int} (he : ert s now span = 0) : Right (outT s now span zs) := by
  unfold outT
  rw [if_pos he]
  exact h.put (okT_new he)
theorem putT_len (x : Tp) (zs : List Tp) : (putT x zs).length ≤ zs.length + 1 := by
  rcases fidx_cases (pu x.1) zs with ⟨e, _⟩ | ⟨k, _, e, _, _⟩
  · rw [putT_none e, ins_len]; exact Nat.le_refl _
  · rw [putT_some e, List.length_set]; omega
theorem outT_len (s : ByteArray) (now span : Int) (zs : List Tp) : (outT s now span zs).length ≤ zs.length + 1 := by
  unfold outT
  split
  · exact putT_len _ _
  · simp
end Go.Proofs.Ytjifohepbmaebaa
