/- Relations: a list turned round, when no id occurs twice. No program. -/
import Derived.Test.YtefajhfahnhcgaaV29
namespace Go.Proofs.Ytefajhfahnhcgaa
open Go Go.RowKit
set_option linter.unusedVariables false
set_option linter.unusedSimpArgs false

theorem sgl_nw {E : Nat → Me} {n : Nat} (h : sglE E n = true) {j : Nat} (hj : j < n) : nw E j = true := all_at h hj
theorem sgl_onc {E : Nat → Me} {n : Nat} (h : sglE E n = true) : onc E n = List.range n := List.filter_eq_self.2 (fun j hj => sgl_nw h (List.mem_range.1 hj))
theorem sgl_inj {E : Nat → Me} {n : Nat} (h : sglE E n = true) {i j : Nat} (hi : i < n) (hj : j < n) (e : (E i).id = (E j).id) : i = j := by
  have h1 := onc_gt (E := E) (n := n) (i := i) (by rw [sgl_onc h]; exact List.mem_range.2 hi)
  have h2 := onc_gt (E := E) (n := n) (i := j) (by rw [sgl_onc h]; exact List.mem_range.2 hj)
  rw [e, h2] at h1
  exact (Option.some.inj h1).symm
theorem sgl_pos {E : Nat → Me} {n : Nat} (h : sglE E n = true) {j : Nat} (hj : j < n) : 0 < (E j).id := by
  have := sgl_nw h hj
  unfold nw at this
  rw [Bool.and_eq_true, decide_eq_true_eq] at this
  exact this.1
/-- The list turned round. -/
def bk (E : Nat → Me) (n : Nat) : Nat → Me := fun j => E (n - 1 - j)
theorem sgl_back {E : Nat → Me} {n : Nat} (h : sglE E n = true) : sglE (bk E n) n = true := by
  refine all_nat fun j hj => ?_
  unfold nw
  have hp : 0 < (bk E n j).id := sgl_pos h (show n - 1 - j < n by omega)
  rw [decide_eq_true hp, Bool.true_and, Bool.not_eq_true']
  unfold sn
  rw [decide_eq_true hp, Bool.true_and, List.any_eq_false]
  intro k hk e
  have hk' := List.mem_range.1 hk
  have := sgl_inj h (show n - 1 - k < n by omega) (show n - 1 - j < n by omega) (of_decide_eq_true e)
  omega
theorem gt_none {E : Nat → Me} {n : Nat} {z : Int} (h : gt E n z = none) (hz : 0 < z) {j : Nat} (hj : j < n) : ¬ (E j).id = z := by
  unfold gt at h
  rw [if_pos hz, List.find?_eq_none] at h
  exact fun e => h j (List.mem_range.2 hj) (decide_eq_true e)
theorem gt_back {E : Nat → Me} {n : Nat} (h : sglE E n = true) (z : Int) : gt (bk E n) n z = (gt E n z).map (fun t => n - 1 - t) := by
  cases hg : gt E n z with
  | none =>
    by_cases hz : 0 < z
    · exact gt_no (fun j hj => gt_none hg hz (show n - 1 - j < n by omega))
    · exact gt_neg hz
  | some t =>
    obtain ⟨ht, hid, hz⟩ := gt_lt hg
    refine gt_at hz (show n - 1 - t < n by omega) ?_ (fun j hj e => ?_)
    · show (E (n - 1 - (n - 1 - t))).id = z
      rw [show n - 1 - (n - 1 - t) = t by omega]; exact hid
    · have e1 : (E (n - 1 - j)).id = z := e
      have h5 := sgl_inj h (show n - 1 - j < n by omega) ht (e1.trans hid.symm)
      have hj' : j < n - 1 - t := hj
      omega
theorem perm_flip (n : Nat) : ((List.range n).map (fun j => n - 1 - j)).Perm (List.range n) := by
  refine (List.perm_ext_iff_of_nodup ?_ List.nodup_range).2 fun a => ?_
  · unfold List.Nodup
    rw [List.pairwise_map]
    refine List.Pairwise.imp_of_mem ?_ (List.pairwise_lt_range (n := n))
    intro a b ha hb hab
    have := List.mem_range.1 hb
    omega
  · rw [List.mem_map]
    constructor
    · rintro ⟨j, hj, rfl⟩
      have := List.mem_range.1 hj
      exact List.mem_range.2 (by omega)
    · intro ha
      have := List.mem_range.1 ha
      exact ⟨n - 1 - a, List.mem_range.2 (by omega), by omega⟩
theorem filt_back (n : Nat) (p : Nat → Bool) : (((List.range n).filter (fun j => p (n - 1 - j))).map (fun j => n - 1 - j)).Perm ((List.range n).filter p) := by
  have h := (perm_flip n).filter p
  rw [List.filter_map] at h
  exact h
theorem dst_nodup : ∀ (ps o : List (ByteArray × ByteArray)), o.Nodup → (ps.foldl dstS o).Nodup
  | [], o, h => h
  | p :: r, o, h => by
    refine dst_nodup r (dstS o p) ?_
    unfold dstS
    split
    · exact h
    · rename_i hn
      rw [List.nodup_append]
      refine ⟨h, by simp, fun a ha b hb e => ?_⟩
      have : b = p := by simpa using hb
      subst this e
      exact hn (List.any_eq_true.2 ⟨_, ha, decide_eq_true rfl⟩)
theorem reac_perm {ps qs : List (ByteArray × ByteArray)} (h : ps.Perm qs) : reac (dst ps) = reac (dst qs) := by
  have hp : (dst ps).Perm (dst qs) := (List.perm_ext_iff_of_nodup (dst_nodup ps [] (by simp)) (dst_nodup qs [] (by simp))).2 fun a => by show a ∈ dst ps ↔ a ∈ dst qs; rw [dst_mem0, dst_mem0]; exact h.mem_iff
  have hc : cntT (dst ps) = cntT (dst qs) := by
    funext t
    unfold cntT
    rw [(hp.filter _).length_eq]
  exact Cn.uniq (reac_ok _).1 (reac_ok _).1 (hc ▸ (reac_ok (dst ps)).2) (reac_ok _).2
theorem beats_no {x y : Me} : beats x y = false ↔ ¬ (x.tm < y.tm ∨ (y.tm = x.tm ∧ x.id < y.id)) := by unfold beats; exact decide_eq_false_iff_not
theorem beats_yes {x y : Me} : beats x y = true ↔ (x.tm < y.tm ∨ (y.tm = x.tm ∧ x.id < y.id)) := by unfold beats; exact decide_eq_true_iff
theorem ltF_max {E : Nat → Me} : ∀ {is : List Nat} {o : Option Nat} {i : Nat}, is.foldl (ltS E) o = some i → (∀ j ∈ is, beats (E i) (E j) = false) ∧ (∀ k, o = some k → beats (E i) (E k) = false)
  | [], o, i, h => ⟨fun j hj => by simp at hj, fun k hk => by
    have e : o = some i := h
    rw [e] at hk
    cases hk
    rw [beats_no]; omega⟩
  | a :: r, o, i, h => by
    obtain ⟨h1, h2⟩ := ltF_max (is := r) (o := ltS E o a) h
    cases o with
    | none =>
      have h3 := h2 a rfl
      refine ⟨fun j hj => ?_, fun k hk => by cases hk⟩
      rcases List.mem_cons.1 hj with rfl | hj
      · exact h3
      · exact h1 j hj
    | some k =>
      by_cases hb : beats (E k) (E a) = true
      · have h3 := h2 a (by unfold ltS; simp only; rw [if_pos hb])
        refine ⟨fun j hj => ?_, fun m hm => ?_⟩
        · rcases List.mem_cons.1 hj with rfl | hj
          · exact h3
          · exact h1 j hj
        · cases hm
          rw [beats_no] at h3 ⊢
          rw [beats_yes] at hb
          omega
      · have h3 := h2 k (by unfold ltS; simp only; rw [if_neg hb])
        have hb' : beats (E k) (E a) = false := by simpa using hb
        refine ⟨fun j hj => ?_, fun m hm => by cases hm; exact h3⟩
        rcases List.mem_cons.1 hj with rfl | hj
        · rw [beats_no] at h3 hb' ⊢
          omega
        · exact h1 j hj
theorem ltL_no {E : Nat → Me} {is : List Nat} (h : ltL E is = none) : is = [] := by
  cases is with
  | nil => rfl
  | cons a r =>
    obtain ⟨i, hi, _⟩ := ltL_some (E := E) (is := a :: r) (by simp)
    rw [hi] at h
    cases h
theorem lt_same {E F : Nat → Me} {is js : List Nat} (h : ∀ j ∈ is, ∃ k ∈ js, F k = E j) (h' : ∀ k ∈ js, ∃ j ∈ is, F k = E j) : idO F (ltL F js) = idO E (ltL E is) := by
  cases hl : ltL E is with
  | none =>
    have := ltL_no hl
    subst this
    cases hm : ltL F js with
    | none => rfl
    | some k =>
      obtain ⟨j, hj, _⟩ := h' k (ltL_mem hm)
      simp at hj
  | some i =>
    cases hm : ltL F js with
    | none =>
      have := ltL_no hm
      subst this
      obtain ⟨k, hk, _⟩ := h i (ltL_mem hl)
      simp at hk
    | some k =>
      show (F k).id = (E i).id
      obtain ⟨j, hj, e1⟩ := h' k (ltL_mem hm)
      obtain ⟨m, hm1, e2⟩ := h i (ltL_mem hl)
      have b1 := (ltF_max hl).1 j hj
      have b2 := (ltF_max hm).1 m hm1
      rw [e1, e2] at b2
      rw [e1]
      rw [beats_no] at b1 b2
      omega
theorem bk_bk {E : Nat → Me} {n t : Nat} (h : t < n) : bk E n (n - 1 - t) = E t := by
  unfold bk
  rw [show n - 1 - (n - 1 - t) = t by omega]
theorem lt_back {E : Nat → Me} {n : Nat} (p : Nat → Bool) : idO (bk E n) (ltL (bk E n) ((List.range n).filter (fun j => p (n - 1 - j)))) = idO E (ltL E ((List.range n).filter p)) := by
  refine lt_same (fun j hj => ?_) (fun k hk => ?_)
  · have := (filt_back n p).mem_iff.2 hj
    obtain ⟨k, hk, rfl⟩ := List.mem_map.1 this
    exact ⟨k, hk, rfl⟩
  · exact ⟨n - 1 - k, (filt_back n p).mem_iff.1 (List.mem_map.2 ⟨k, hk, rfl⟩), rfl⟩
theorem len_back (n : Nat) (p : Nat → Bool) : ((List.range n).filter (fun j => p (n - 1 - j))).length = ((List.range n).filter p).length := by
  have := (filt_back n p).length_eq
  rwa [List.length_map] at this
theorem reac_back {E : Nat → Me} {n : Nat} (z : Int) : reac (dsK (bk E n) (List.range n) z (List.range n).length) = reac (dsK E (List.range n) z (List.range n).length) := by
  unfold dsK
  rw [List.take_length]
  refine reac_perm ?_
  have h : prs (bk E n) ((List.range n).filter (isR (bk E n) 4 z)) = prs E (((List.range n).filter (fun j => isR E 4 z (n - 1 - j))).map (fun j => n - 1 - j)) := by
    unfold prs
    rw [List.map_map]
    rfl
  rw [h]
  exact (filt_back n (isR E 4 z)).map _
theorem isSum_back {w : World} {E : Nat → Me} {n : Nat} {z : Int} {v : Value} (hs : sglE E n = true) (h : IsSum w (bk E n) (onc (bk E n) n) z (gt (bk E n) n z) v) : IsSum w E (onc E n) z (gt E n z) v := by
  rw [gt_back hs, sgl_onc (sgl_back hs)] at h
  rw [sgl_onc hs]
  cases hg : gt E n z with
  | none => rw [hg] at h; exact h
  | some t =>
    rw [hg] at h
    obtain ⟨A', c', e, hr⟩ := h
    have ht := (gt_lt hg).1
    have e1 : idO (bk E n) (ltL (bk E n) ((List.range n).filter (isEd (bk E n) z (bk E n (n - 1 - t)).sd))) = idO E (ltL E ((List.range n).filter (isEd E z (E t).sd))) := by
      rw [bk_bk ht]
      exact lt_back (isEd E z (E t).sd)
    have e2 : idO (bk E n) (ltL (bk E n) ((List.range n).filter (isR (bk E n) 2 z))) = idO E (ltL E ((List.range n).filter (isR E 2 z))) := lt_back (isR E 2 z)
    have e3 : ((List.range n).filter (isR (bk E n) 2 z)).length = ((List.range n).filter (isR E 2 z)).length := len_back n (isR E 2 z)
    rw [reac_back] at hr e
    rw [e1, e2, e3] at e
    exact ⟨A', c', e, hr⟩
theorem shw_back {E : Nat → Me} {n : Nat} (hs : sglE E n = true) (z : Int) : shwT (bk E n) n z = shwT E n z ∧ shwE (bk E n) n z = shwE E n z := by
  unfold shwT shwE
  rw [gt_back hs, sgl_onc (sgl_back hs), sgl_onc hs]
  cases hg : gt E n z with
  | none => exact ⟨rfl, rfl⟩
  | some t =>
    have ht := (gt_lt hg).1
    simp only [Option.map_some]
    rw [bk_bk ht]
    refine ⟨?_, rfl⟩
    split
    · have e1 : idO (bk E n) (ltL (bk E n) ((List.range n).filter (isEd (bk E n) z (E t).sd))) = idO E (ltL E ((List.range n).filter (isEd E z (E t).sd))) := lt_back (isEd E z (E t).sd)
      rw [e1, gt_back hs]
      cases hu : gt E n (idO E (ltL E ((List.range n).filter (isEd E z (E t).sd)))) with
      | none => rfl
      | some u =>
        simp only [Option.map_some]
        rw [bk_bk (gt_lt hu).1]
    · rfl
end Go.Proofs.Ytefajhfahnhcgaa
