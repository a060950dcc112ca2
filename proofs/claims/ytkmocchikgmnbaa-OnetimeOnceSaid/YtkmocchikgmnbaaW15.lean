/- One-time keys: one entry of a list replaced, one put in; no program. -/
import Derived.Test.YtkmocchikgmnbaaW14
namespace Go.Proofs.Ytkmocchikgmnbaa
open Go.RowKit
set_option linter.unusedVariables false
set_option linter.unusedSimpArgs false

/-- A device's entry replaced: what a store leaves. -/
theorem set_perm {zs : List Rc} (h : Srt zs) {k : Nat} (hk : k < zs.length) {p : Rc} (hs : sd (zs.getD k t0) p) : (zs.set k p).Perm (putL zs p) ∧ Srt (zs.set k p) := by
  rw [getD_at hk] at hs
  have e : zs = zs.take k ++ zs[k] :: zs.drop (k + 1) := by rw [← List.drop_eq_getElem_cons hk, List.take_append_drop]
  have hp : Srt (zs.take k ++ zs[k] :: zs.drop (k + 1)) := e ▸ h
  obtain ⟨h1, h2, h3⟩ := List.pairwise_append.1 hp
  obtain ⟨h4, h5⟩ := List.pairwise_cons.1 h2
  have es : zs.set k p = zs.take k ++ p :: zs.drop (k + 1) := by rw [List.set_eq_take_append_cons_drop, if_pos hk]
  have d1 : ∀ q ∈ zs.take k, dev p.us p.dv q = false := fun q hq => by
    cases hd : dev p.us p.dv q
    · rfl
    · exact absurd (lt_sd (h3 q hq zs[k] List.mem_cons_self) (sd_trans hs (sd_symm (dev_sd.1 hd)))) (ltR_irrefl q)
  have d2 : dev p.us p.dv zs[k] = true := dev_sd.2 hs
  have d3 : ∀ q ∈ zs.drop (k + 1), dev p.us p.dv q = false := fun q hq => by
    cases hd : dev p.us p.dv q
    · rfl
    · exact absurd (sd_lt (sd_trans (dev_sd.1 hd) (sd_symm hs)) (h4 q hq)) (ltR_irrefl q)
  constructor
  · have ef : zs.filter (fun q => !dev p.us p.dv q) = zs.take k ++ zs.drop (k + 1) := by
      conv => lhs; rw [e]
      rw [List.filter_append, List.filter_cons_of_neg (by rw [d2]; decide), List.filter_eq_self.2 (fun q hq => by rw [d1 q hq]; rfl), List.filter_eq_self.2 (fun q hq => by rw [d3 q hq]; rfl)]
    unfold putL
    rw [ef, es]
    rw [List.append_assoc]
    exact List.Perm.append_left _ (List.perm_append_comm (l₁ := [p]) (l₂ := zs.drop (k + 1)))
  · rw [es]
    refine List.pairwise_append.2 ⟨h1, List.pairwise_cons.2 ⟨fun q hq => sd_lt (sd_symm hs) (h4 q hq), h5⟩, fun a ha b hb => ?_⟩
    rcases List.mem_cons.1 hb with rfl | hb
    · exact lt_sd (h3 a ha zs[k] List.mem_cons_self) hs
    · exact h3 a ha b (List.mem_cons_of_mem _ hb)
/-- A new device's entry put in. -/
theorem ins_perm {zs : List Rc} (h : Srt zs) {i : Nat} (hi : i ≤ zs.length) {p : Rc} (h1 : ∀ j, j < i → ltR (zs.getD j t0) p) (h2 : i < zs.length → ¬ ltR (zs.getD i t0) p) (hd : ∀ q ∈ zs, dev p.us p.dv q = false) : (zs.take i ++ p :: zs.drop i).Perm (putL zs p) ∧ Srt (zs.take i ++ p :: zs.drop i) := by
  constructor
  · unfold putL
    rw [List.filter_eq_self.2 (fun q hq => by rw [hd q hq]; rfl)]
    have e : zs ++ [p] = zs.take i ++ (zs.drop i ++ [p]) := by rw [← List.append_assoc, List.take_append_drop]
    rw [e]
    exact List.Perm.append_left _ (List.perm_append_comm (l₁ := [p]) (l₂ := zs.drop i))
  · have hz : Srt (zs.take i ++ zs.drop i) := by rw [List.take_append_drop]; exact h
    obtain ⟨a1, a2, a3⟩ := List.pairwise_append.1 hz
    have hlt : ∀ q ∈ zs.drop i, ltR p q := by
      intro q hq
      have hil : i < zs.length := by
        rcases Nat.lt_or_ge i zs.length with h | h
        · exact h
        · rw [List.drop_of_length_le h] at hq; cases hq
      rw [List.drop_eq_getElem_cons hil] at hq a2
      have hb := h2 hil
      rw [getD_at hil] at hb
      have hc : ltR p zs[i] := by
        rcases ltR_tri p zs[i] with a | a | a
        · exact a
        · have := hd zs[i] (List.getElem_mem _)
          rw [dev_sd.2 (sd_symm a)] at this; cases this
        · exact absurd a hb
      rcases List.mem_cons.1 hq with rfl | hq
      · exact hc
      · exact ltR_trans hc ((List.pairwise_cons.1 a2).1 q hq)
    refine List.pairwise_append.2 ⟨a1, List.pairwise_cons.2 ⟨hlt, a2⟩, fun a ha b hb => ?_⟩
    have ha2 : ltR a p := by
      obtain ⟨j, hj, rfl⟩ := List.getElem_of_mem ha
      rw [List.length_take] at hj
      have := h1 j (by omega)
      rw [getD_at (by omega)] at this
      rw [List.getElem_take]; exact this
    rcases List.mem_cons.1 hb with rfl | hb
    · exact ha2
    · exact ltR_trans ha2 (hlt b hb)
end Go.Proofs.Ytkmocchikgmnbaa
