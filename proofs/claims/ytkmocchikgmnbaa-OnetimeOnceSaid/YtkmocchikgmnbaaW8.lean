/- One-time keys: the order of entries; slices.SortFunc at them. Bound: fewer than 2^62 entries. -/
import Derived.Test.YtkmocchikgmnbaaW7
import Derived.Test.YtkmocchikgmnbaaShelf
namespace Go.Proofs.Ytkmocchikgmnbaa
open Go.RowKit
set_option linter.unusedVariables false
set_option linter.unusedSimpArgs false

theorem ltR_irrefl (p : Rc) : ¬ ltR p p := by
  rintro (h | ⟨_, h⟩) <;> exact List.lt_irrefl _ h
theorem ltR_trans {p q r : Rc} (h : ltR p q) (k : ltR q r) : ltR p r := by
  rcases h with h | ⟨h, h2⟩ <;> rcases k with k | ⟨k, k2⟩
  · exact .inl (List.lt_trans h k)
  · exact .inl (k ▸ h)
  · exact .inl (h ▸ k)
  · exact .inr ⟨h.trans k, List.lt_trans h2 k2⟩
theorem ltR_asymm {p q : Rc} (h : ltR p q) : ¬ ltR q p := fun k => ltR_irrefl p (ltR_trans h k)
theorem eq_of_toList {a b : ByteArray} (h : a.toList = b.toList) : a = b := by
  rw [Lib.toList_data, Lib.toList_data] at h
  apply ByteArray.ext
  exact Array.toList_inj.1 h
theorem ltR_tri (p q : Rc) : ltR p q ∨ sd p q ∨ ltR q p := by
  by_cases h1 : p.us.toList < q.us.toList
  · exact .inl (.inl h1)
  · by_cases h2 : p.us.toList = q.us.toList
    · by_cases h3 : p.dv.toList < q.dv.toList
      · exact .inl (.inr ⟨h2, h3⟩)
      · by_cases h4 : p.dv.toList = q.dv.toList
        · exact .inr (.inl ⟨eq_of_toList h2, eq_of_toList h4⟩)
        · exact .inr (.inr (.inr ⟨h2.symm, tri h3 h4⟩))
    · exact .inr (.inr (.inl (tri h1 h2)))
theorem sd_lt {p q r : Rc} (h : sd p q) (k : ltR q r) : ltR p r := by
  obtain ⟨h1, h2⟩ := h
  unfold ltR at k ⊢
  rw [h1, h2]; exact k
theorem lt_sd {p q r : Rc} (k : ltR p q) (h : sd q r) : ltR p r := by
  obtain ⟨h1, h2⟩ := h
  unfold ltR at k ⊢
  rw [← h1, ← h2]; exact k
theorem sd_symm {p q : Rc} (h : sd p q) : sd q p := ⟨h.1.symm, h.2.symm⟩
theorem sd_trans {p q r : Rc} (h : sd p q) (k : sd q r) : sd p r := ⟨h.1.trans k.1, h.2.trans k.2⟩
instance (p q : Rc) : Decidable (ltR p q) := by unfold ltR; infer_instance
theorem ltO (p q : Rc) : ltOf cmpO p q = decide (ltR p q) := by
  unfold ltOf
  rw [decide_eq_decide]
  exact cmpO_neg p q
theorem swoO : Sort.SWO (ltOf cmpO) where
  irrefl x := by rw [ltO]; simpa using ltR_irrefl x
  trans x y z h1 h2 := by
    rw [ltO] at *
    exact decide_eq_true (ltR_trans (of_decide_eq_true h1) (of_decide_eq_true h2))
  ntrans x y z h1 h2 := by
    rw [ltO] at *
    have h1 := of_decide_eq_false h1
    have h2 := of_decide_eq_false h2
    refine decide_eq_false fun h => ?_
    rcases ltR_tri x y with a | a | a
    · exact h1 a
    · exact h2 (sd_lt (sd_symm a) h)
    · rcases ltR_tri y z with b | b | b
      · exact h2 b
      · exact ltR_asymm a (lt_sd h (sd_symm b))
      · exact ltR_irrefl x (ltR_trans h (ltR_trans b a))
/-- A list in order. -/
def Srt (zs : List Rc) : Prop := zs.Pairwise ltR
theorem Srt.dis {zs : List Rc} (h : Srt zs) : Dis zs := h.imp fun {a b} hab hs => ltR_irrefl a (lt_sd hab (sd_symm hs))
theorem srt_unique {a b : List Rc} (ha : Srt a) (hb : Srt b) (h : a.Perm b) : a = b :=
  h.eq_of_pairwise (le := ltR) (fun x y _ _ h1 h2 => absurd h2 (ltR_asymm h1)) ha hb
theorem srt_of {zs : List Rc} (h : ∀ i j, i < j → j < zs.length → ¬ ltR (zs.getD j t0) (zs.getD i t0)) (hd : Dis zs) : Srt zs := by
  unfold Srt
  rw [List.pairwise_iff_getElem]
  intro i j hi hj hij
  have h1 := h i j hij hj
  rw [getD_at hj, getD_at hi] at h1
  have h2 := (List.pairwise_iff_getElem.1 hd) i j hi hj hij
  rcases ltR_tri zs[i] zs[j] with a | a | a
  · exact a
  · exact absurd a h2
  · exact absurd a h1
theorem cmpLays37 (g size : Nat) (w : World) : CmpLays Try.prog 37 #[] enc 4 cmpO g 0 size w :=
  fun m os dk _ x y => (closure37 x y _).mono fun e w' ⟨he, hg⟩ => ⟨he, hg.grow⟩
theorem agg45 (w : World) : (isAgg 45).run Try.prog w = .ok true w := by kernel_rfl
theorem sz45 (w : World) : (Go.sizeOf 45).run Try.prog w = .ok 4 w := by kernel_rfl
/-- slices.SortFunc at entries. -/
theorem sortF_any (g cap : Nat) (ys : List Rc) (w : World) (hH : Sort.HoldsK enc 4 w g 0 ys.toArray) (hg : g < w.heap.size) (hsz : ys.length < 4611686018427387904) :
    Calls Try.prog 36 #[.slice (some ⟨g, 0, none⟩) ys.length cap, .func (.func 37) #[] #[]] w fun e w' => e = .returned (.tuple #[]) ∧ ∃ zs : List Rc, zs.Perm ys ∧ (∀ i j, i < j → j < zs.length → ¬ ltR (zs.getD j t0) (zs.getD i t0)) ∧ Sort.HoldsK enc 4 w' g 0 zs.toArray ∧ w.grownBy w' (some g) := by
  have eg : ∀ args w, (callFunc 37 args).run Try.prog w = .ok (.enter 37 args) w := enters_of Try.func37 (by kernel_rfl) rfl
  have hcon := AnyQ.slices_SortFunc Try.sortF 4 agg45 sz45 enc enc_len enc_one cmpO swoO 37 #[] g 0 cap ys.toArray w eg (cmpLays37 g ys.toArray.size w) hH hg (by simpa using hsz)
  change Calls Try.prog 36 _ _ _ at hcon
  rw [List.size_toArray] at hcon
  refine hcon.mono ?_
  rintro e w' ⟨he, d', n, os, hp, hs, rfl⟩
  obtain ⟨h1, h2, h3⟩ := hp
  have hsd : d'.size = ys.length := by simpa using h1
  have e1 : d'.extract 0 ys.length = d' := by rw [← hsd]; simp
  have e2 : ys.toArray.extract 0 ys.length = ys.toArray := by simp
  rw [e1, e2] at h3
  refine ⟨he, d'.toList, h3, fun i j hij hj hlt => ?_, by rw [Array.toArray_toList]; exact holdsK_sortWorldK_c enc 4 w g 0 ys.toArray d' n os hH hg (by simpa using h1), grown_sortK w g n d' os⟩
  have hj' : j < d'.size := by simpa using hj
  have h4 := hs i j (Nat.zero_le _) hij (by omega)
  rw [ltO] at h4
  refine of_decide_eq_false h4 ?_
  rw [getElem!_pos d' j hj', getElem!_pos d' i (by omega)]
  rw [getD_at hj, getD_at (by omega)] at hlt
  simpa using hlt
end Go.Proofs.Ytkmocchikgmnbaa
