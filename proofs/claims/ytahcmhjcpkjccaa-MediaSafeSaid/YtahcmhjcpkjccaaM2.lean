/- Media: right lists stay right: what Check demands, under put and under Expire. No condition. -/
import Derived.Test.YtahcmhjcpkjccaaC16
namespace Go.Proofs.Ytahcmhjcpkjccaa
open Go.RowKit
set_option linter.unusedVariables false

def ltR (p q : Rc) : Prop := bef p q.sv q.nm = true
theorem ltR_iff {p q : Rc} : ltR p q ↔ p.sv.toList < q.sv.toList ∨ (p.sv.toList = q.sv.toList ∧ p.nm.toList < q.nm.toList) := by
  unfold ltR bef
  rw [bytesLess_eq, bytesLess_eq, Bool.or_eq_true, Bool.and_eq_true, decide_eq_true_iff, decide_eq_true_iff, beq_iff_eq]
theorem ltR_trans {p q r : Rc} (h1 : ltR p q) (h2 : ltR q r) : ltR p r := by
  rw [ltR_iff] at *
  rcases h1 with a | ⟨a, a'⟩ <;> rcases h2 with b | ⟨b, b'⟩
  · exact .inl (List.lt_trans a b)
  · exact .inl (by rw [← b]; exact a)
  · exact .inl (by rw [a]; exact b)
  · exact .inr ⟨a.trans b, List.lt_trans a' b'⟩
/-- A right list. -/
structure Right (zs : List Rc) : Prop where
  ok : ∀ p ∈ zs, fileE p = 0
  up : zs.Pairwise ltR
theorem right_of_chk {zs : List Rc} (h : chk zs zs.length = 0) : Right zs := by
  have hs := chk_steps h
  have ho : ∀ j (hj : j < zs.length) (h0 : 0 < j), ltR (zs[j - 1]'(by omega)) zs[j] := by
    intro j hj h0
    have h1 := hs j hj
    unfold stepM at h1
    rw [if_pos (step_file (hs j hj)), getD_at hj, getD_at (show j - 1 < zs.length by omega)] at h1
    cases hb : bef zs[j - 1] zs[j].sv zs[j].nm with
    | true => exact hb
    | false => rw [if_pos ⟨h0, hb⟩] at h1; cases h1
  refine ⟨fun p hp => ?_, ?_⟩
  · obtain ⟨j, hj, rfl⟩ := List.getElem_of_mem hp
    have := step_file (hs j hj)
    rw [getD_at hj] at this
    exact this
  · rw [List.pairwise_iff_getElem]
    intro i j hi hj hij
    induction j with
    | zero => omega
    | succ j ih =>
      have h1 := ho (j + 1) hj (by omega)
      simp only [Nat.add_sub_cancel] at h1
      rcases Nat.lt_or_ge i j with h2 | h2
      · exact ltR_trans (ih (by omega) h2) h1
      · obtain rfl : i = j := by omega
        exact h1
theorem chk_of_right {zs : List Rc} {n : Nat} (hn : n = zs.length) (h : Right zs) : chk zs n = 0 := by
  subst hn
  refine chk_no fun j hj => ?_
  unfold stepM
  rw [getD_at hj, if_pos (h.ok _ (List.getElem_mem hj))]
  by_cases h0 : 0 < j
  · have h1 := h.up
    rw [List.pairwise_iff_getElem] at h1
    have h2 : bef zs[j - 1] zs[j].sv zs[j].nm = true := h1 (j - 1) j (by omega) hj (by omega)
    rw [getD_at (show j - 1 < zs.length by omega), h2, if_neg (by rintro ⟨_, h⟩; cases h)]
  · rw [if_neg (fun h => h0 h.1)]
/-- Where no file has the server and name: before one way or the other. -/
theorem not_bef {m p : Rc} (h : pF m.sv m.nm p = false) (hb : bef p m.sv m.nm = false) : ltR m p := by
  rw [ltR_iff]
  unfold bef at hb
  unfold pF at h
  rw [bytesLess_eq, bytesLess_eq, Bool.or_eq_false_iff, decide_eq_false_iff_not] at hb
  by_cases a : m.sv.toList < p.sv.toList
  · exact .inl a
  · have e : m.sv.toList = p.sv.toList := by
      by_cases e : m.sv.toList = p.sv.toList
      · exact e
      · exact absurd (tri a e) hb.1
    right
    refine ⟨e, ?_⟩
    have h2 := hb.2
    rw [← e] at h2 h
    simp at h2 h
    exact tri h2 h
theorem Right.new {zs : List Rc} (h : Right zs) {m : Rc} (hm : fileE m = 0) (hno : ∀ p ∈ zs, pF m.sv m.nm p = false) : Right (rputL m zs) := by
  obtain ⟨K, hK⟩ : ∃ K, K = rK m zs := ⟨_, rfl⟩
  unfold rputL
  rw [← hK]
  have hu := h.up
  rw [← List.take_append_drop K zs, List.pairwise_append] at hu
  obtain ⟨u1, u2, u3⟩ := hu
  have hlo : ∀ p ∈ zs.take K, ltR p m := by
    intro p hp
    obtain ⟨j, hj, rfl⟩ := List.getElem_of_mem hp
    rw [List.getElem_take]
    rw [List.length_take] at hj
    have h2 := List.not_of_lt_findIdx (p := fun p => !bef p m.sv m.nm) (xs := zs) (i := j) (by rw [show zs.findIdx (fun p => !bef p m.sv m.nm) = K from hK.symm]; omega)
    unfold ltR
    simpa using h2
  have hhi : ∀ p ∈ zs.drop K, ltR m p := by
    intro p hp
    obtain ⟨j, hj, rfl⟩ := List.getElem_of_mem hp
    rw [List.length_drop] at hj
    have hk : K < zs.length := by omega
    have h1 : zs.findIdx (fun p => !bef p m.sv m.nm) < zs.length := by rw [show zs.findIdx (fun p => !bef p m.sv m.nm) = K from hK.symm]; exact hk
    have h2 := List.findIdx_getElem (w := h1)
    simp only [show zs.findIdx (fun p => !bef p m.sv m.nm) = K from hK.symm] at h2
    have h3 : ltR m zs[K] := not_bef (hno _ (List.getElem_mem hk)) (by simpa using h2)
    rw [List.getElem_drop]
    rcases Nat.eq_zero_or_pos j with h0 | h0
    · subst h0; simpa using h3
    · have hp := h.up
      rw [List.pairwise_iff_getElem] at hp
      exact ltR_trans h3 (hp _ _ hk (by omega) (by omega))
  refine ⟨fun p hp => ?_, ?_⟩
  · rcases List.mem_append.1 hp with h1 | h1
    · exact h.ok p (List.mem_of_mem_take h1)
    · rcases List.mem_cons.1 h1 with h2 | h2
      · rw [h2]; exact hm
      · exact h.ok p (List.mem_of_mem_drop h2)
  · rw [List.pairwise_append, List.pairwise_cons]
    refine ⟨u1, ⟨hhi, u2⟩, fun a ha b hb => ?_⟩
    rcases List.mem_cons.1 hb with h2 | h2
    · rw [h2]; exact hlo a ha
    · exact u3 a ha b h2
/-- Files changed, but not their servers and names. -/
theorem Right.map {zs : List Rc} (h : Right zs) (f : Rc → Rc) (hf : ∀ p, (f p).sv = p.sv ∧ (f p).nm = p.nm) (hok : ∀ p, fileE p = 0 → fileE (f p) = 0) : Right (zs.map f) := by
  refine ⟨fun p hp => ?_, ?_⟩
  · obtain ⟨q, hq, rfl⟩ := List.mem_map.1 hp
    exact hok q (h.ok q hq)
  · rw [List.pairwise_map]
    refine h.up.imp fun {a b} hab => ?_
    rw [ltR_iff] at hab ⊢
    rw [(hf a).1, (hf a).2, (hf b).1, (hf b).2]
    exact hab
theorem file_st {p : Rc} (h : fileE p = 0) : fileE { p with st := 3 } = 0 := by
  obtain ⟨h1, h2⟩ := fileE_zero h
  obtain ⟨⟨a, b⟩, ⟨c, d⟩, _⟩ := rg_bounds h2
  unfold fileE rgOK
  simp only
  rw [h1, if_neg (by decide), wi_in a b, wi_in c d]
  rfl
theorem Right.exp {zs : List Rc} (h : Right zs) (own : ByteArray) (now age : Int) : Right (expL own now age zs) :=
  h.map _ (fun p => by unfold exp1; split <;> exact ⟨rfl, rfl⟩) (fun p hp => by
    unfold exp1
    split
    · exact file_st hp
    · exact hp)
theorem Right.set {zs : List Rc} (h : Right zs) {k : Nat} {x : Rc} (hx : fileE x = 0) (hk : ∀ h : k < zs.length, zs[k].sv = x.sv ∧ zs[k].nm = x.nm) : Right (zs.set k x) := by
  refine ⟨fun p hp => ?_, ?_⟩
  · rcases List.mem_or_eq_of_mem_set hp with h1 | h1
    · exact h.ok p h1
    · rw [h1]; exact hx
  · have hu := h.up
    rw [List.pairwise_iff_getElem] at hu ⊢
    intro i j hi hj hij
    rw [List.length_set] at hi hj
    have e : ∀ l (hl : l < zs.length), ((zs.set k x)[l]'(by rw [List.length_set]; exact hl)).sv = zs[l].sv ∧ ((zs.set k x)[l]'(by rw [List.length_set]; exact hl)).nm = zs[l].nm := by
      intro l hl
      rw [List.getElem_set]
      split
      · rename_i q; subst q
        exact ⟨(hk hl).1.symm, (hk hl).2.symm⟩
      · exact ⟨rfl, rfl⟩
    have := hu i j hi hj hij
    rw [ltR_iff] at this ⊢
    rw [(e i hi).1, (e i hi).2, (e j hj).1, (e j hj).2]
    exact this
end Go.Proofs.Ytahcmhjcpkjccaa
