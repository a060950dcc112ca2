/- Sessions: the order of holders; lists without repeats; the devices of members. No program. -/
import Derived.Test.YtbkchcpfnoclhaaGreatHd
import Derived.Test.YtbkchcpfnoclhaaGreatIW12
import Derived.ChangeKeysEq
namespace Go.Proofs.YtbkchcpfnoclhaaGreat
set_option maxRecDepth 100000
open Go Go.RowKit
set_option linter.unusedVariables false
set_option linter.unusedSimpArgs false

theorem tri {a b : List UInt8} (h : ¬ a < b) (hne : a ≠ b) : b < a := by
  by_cases h2 : b < a
  · exact h2
  · exact absurd (List.le_antisymm (List.not_lt.1 h2) (List.not_lt.1 h)) hne
theorem eq_of_toList {a b : ByteArray} (h : a.toList = b.toList) : a = b := by
  rw [Lib.toList_data, Lib.toList_data] at h
  apply ByteArray.ext
  exact Array.toList_inj.1 h
namespace Hd
instance : Inhabited Rc := ⟨t0⟩
instance : DecidableEq Rc := fun a b => if h : a.us = b.us ∧ a.dv = b.dv then isTrue (Rc.ext h.1 h.2) else isFalse (fun e => h (by rw [e]; exact ⟨rfl, rfl⟩))
def ltR (p q : Rc) : Prop := p.us.toList < q.us.toList ∨ (p.us.toList = q.us.toList ∧ p.dv.toList < q.dv.toList)
instance (p q : Rc) : Decidable (ltR p q) := by unfold ltR; infer_instance
theorem ltR_irrefl (p : Rc) : ¬ ltR p p := by
  rintro (h | ⟨_, h⟩) <;> exact List.lt_irrefl _ h
theorem ltR_trans {p q r : Rc} (h : ltR p q) (k : ltR q r) : ltR p r := by
  rcases h with h | ⟨h, h2⟩ <;> rcases k with k | ⟨k, k2⟩
  · exact .inl (List.lt_trans h k)
  · exact .inl (k ▸ h)
  · exact .inl (h ▸ k)
  · exact .inr ⟨h.trans k, List.lt_trans h2 k2⟩
theorem ltR_asymm {p q : Rc} (h : ltR p q) : ¬ ltR q p := fun k => ltR_irrefl p (ltR_trans h k)
theorem ltR_tri (p q : Rc) : ltR p q ∨ p = q ∨ ltR q p := by
  by_cases h1 : p.us.toList < q.us.toList
  · exact .inl (.inl h1)
  · by_cases h2 : p.us.toList = q.us.toList
    · by_cases h3 : p.dv.toList < q.dv.toList
      · exact .inl (.inr ⟨h2, h3⟩)
      · by_cases h4 : p.dv.toList = q.dv.toList
        · exact .inr (.inl (Rc.ext (eq_of_toList h2) (eq_of_toList h4)))
        · exact .inr (.inr (.inr ⟨h2.symm, tri h3 h4⟩))
    · exact .inr (.inr (.inl (tri h1 h2)))
def Srt (zs : List Rc) : Prop := zs.Pairwise ltR
theorem srt_nodup {zs : List Rc} (h : Srt zs) : zs.Nodup := List.nodup_iff_pairwise_ne.2 (List.Pairwise.imp (fun {a b} (hab : ltR a b) (e : a = b) => by subst e; exact ltR_irrefl _ hab) h)
theorem srt_unique {a b : List Rc} (ha : Srt a) (hb : Srt b) (h : ∀ x, x ∈ a ↔ x ∈ b) : a = b :=
  ((List.perm_ext_iff_of_nodup (srt_nodup ha) (srt_nodup hb)).2 h).eq_of_pairwise (le := ltR) (fun x y _ _ h1 h2 => absurd h2 (ltR_asymm h1)) ha hb
/-- A list without its repeats, so far. -/
def cptUp (zs : List Rc) : Nat → List Rc
  | 0 => []
  | m + 1 => cptUp zs m ++ (if m = 0 ∨ zs.getD m t0 ≠ zs.getD (m - 1) t0 then [zs.getD m t0] else [])
theorem cptUp_len (zs : List Rc) : ∀ m, (cptUp zs m).length ≤ m
  | 0 => Nat.le_refl _
  | m + 1 => by
    have := cptUp_len zs m
    rw [cptUp, List.length_append]
    split <;> simp <;> omega
theorem cptUp_take {zs : List Rc} : ∀ {m : Nat}, m ≤ zs.length → (∀ j, 0 < j → j < m → zs.getD j t0 ≠ zs.getD (j - 1) t0) → cptUp zs m = zs.take m
  | 0, _, _ => rfl
  | m + 1, h, h2 => by
    rw [cptUp, cptUp_take (by omega) (fun j hj hj2 => h2 j hj (by omega)), if_pos, List.take_succ_eq_append_getElem (by omega), getD_at (by omega)]
    by_cases e : m = 0
    · exact .inl e
    · exact .inr (h2 m (by omega) (by omega))
theorem cptUp_spec (zs : List Rc) (hs : ∀ i j, i < j → j < zs.length → ¬ ltR (zs.getD j t0) (zs.getD i t0)) : ∀ m, m ≤ zs.length → Srt (cptUp zs m) ∧ (∀ x, x ∈ cptUp zs m ↔ ∃ j, j < m ∧ zs.getD j t0 = x)
  | 0, _ => ⟨List.Pairwise.nil, fun x => ⟨fun h => by simp [cptUp] at h, fun ⟨j, hj, _⟩ => by omega⟩⟩
  | m + 1, h => by
    obtain ⟨h1, h2⟩ := cptUp_spec zs hs m (by omega)
    rw [cptUp]
    by_cases hk : m = 0 ∨ zs.getD m t0 ≠ zs.getD (m - 1) t0
    · rw [if_pos hk]
      refine ⟨?_, fun x => ?_⟩
      · unfold Srt
        rw [List.pairwise_append]
        refine ⟨h1, List.pairwise_singleton _ _, fun a ha b hb => ?_⟩
        rw [List.mem_singleton] at hb
        obtain ⟨j, hj, rfl⟩ := (h2 a).1 ha
        subst hb
        have hm : zs.getD m t0 ≠ zs.getD (m - 1) t0 := by
          rcases hk with e | e
          · omega
          · exact e
        have hlt : ltR (zs.getD (m - 1) t0) (zs.getD m t0) := by
          rcases ltR_tri (zs.getD (m - 1) t0) (zs.getD m t0) with a | a | a
          · exact a
          · exact absurd a.symm hm
          · exact absurd a (hs _ _ (by omega) (by omega))
        by_cases e : j = m - 1
        · rw [e]; exact hlt
        · rcases ltR_tri (zs.getD j t0) (zs.getD (m - 1) t0) with a | a | a
          · exact ltR_trans a hlt
          · rw [a]; exact hlt
          · exact absurd a (hs _ _ (by omega) (by omega))
      · rw [List.mem_append, List.mem_singleton, h2]
        constructor
        · rintro (⟨j, hj, e⟩ | e)
          · exact ⟨j, by omega, e⟩
          · exact ⟨m, by omega, e.symm⟩
        · rintro ⟨j, hj, e⟩
          by_cases e2 : j = m
          · subst e2; exact .inr e.symm
          · exact .inl ⟨j, by omega, e⟩
    · rw [if_neg hk, List.append_nil]
      refine ⟨h1, fun x => ?_⟩
      rw [h2]
      have hm : 0 < m ∧ zs.getD m t0 = zs.getD (m - 1) t0 := by
        refine ⟨by omega, Classical.byContradiction fun e => hk (.inr e)⟩
      constructor
      · rintro ⟨j, hj, e⟩; exact ⟨j, by omega, e⟩
      · rintro ⟨j, hj, e⟩
        by_cases e2 : j = m
        · subst e2; exact ⟨j - 1, by omega, by rw [← hm.2]; exact e⟩
        · exact ⟨j, by omega, e⟩
/-- A sorted list without its repeats is the sorted list of the same elements. -/
theorem cpt_eq {zs l : List Rc} (hs : ∀ i j, i < j → j < zs.length → ¬ ltR (zs.getD j t0) (zs.getD i t0)) (hl : Srt l) (hm : ∀ x, x ∈ zs ↔ x ∈ l) : cptUp zs zs.length = l := by
  obtain ⟨h1, h2⟩ := cptUp_spec zs hs zs.length (Nat.le_refl _)
  refine srt_unique h1 hl fun x => ?_
  rw [h2, ← hm]
  constructor
  · rintro ⟨j, hj, rfl⟩; rw [getD_at hj]; exact List.getElem_mem _
  · intro hx
    obtain ⟨j, hj, e⟩ := List.mem_iff_getElem.1 hx
    exact ⟨j, hj, by rw [getD_at hj]; exact e⟩
end Hd
/-- The different texts, in order. -/
def nmB (ls : List ByteArray) : List ByteArray := bs (I.nm (tx ls))
theorem mem_nmB (ls : List ByteArray) (x : ByteArray) : x ∈ nmB ls ↔ x ∈ ls := by
  unfold nmB bs tx
  rw [List.mem_map]
  constructor
  · rintro ⟨l, hl, rfl⟩
    rw [I.mem_nm, List.mem_map] at hl
    obtain ⟨s, hs, rfl⟩ := hl
    rwa [Array.toArray_toList]
  · intro hx
    exact ⟨x.data.toList, (I.mem_nm _ _).2 (List.mem_map.2 ⟨x, hx, rfl⟩), by rw [Array.toArray_toList]⟩
theorem toList_mk (l : List UInt8) : (⟨l.toArray⟩ : ByteArray).toList = l := by rw [Lib.toList_data]
theorem srt_nmB (ls : List ByteArray) : (nmB ls).Pairwise (fun a b => a.toList < b.toList) := by
  unfold nmB bs
  rw [List.pairwise_map]
  refine (I.srt_nm (tx ls)).imp ?_
  intro a b h
  rw [toList_mk, toList_mk]
  exact h
/-- What the members hold: f gives the devices of a user. -/
def holdL (ms : List ByteArray) (f : ByteArray → List ByteArray) : List Hd.Rc := (nmB ms).flatMap (fun u => (nmB (f u)).map (fun d => ⟨u, d⟩))
def rawL (ms : List ByteArray) (f : ByteArray → List ByteArray) : List Hd.Rc := (nmB ms).flatMap (fun u => (f u).map (fun d => ⟨u, d⟩))
theorem mem_holdL {ms : List ByteArray} {f : ByteArray → List ByteArray} {p : Hd.Rc} : p ∈ holdL ms f ↔ p.us ∈ ms ∧ p.dv ∈ f p.us := by
  unfold holdL
  rw [List.mem_flatMap]
  constructor
  · rintro ⟨u, hu, hp⟩
    obtain ⟨d, hd, rfl⟩ := List.mem_map.1 hp
    exact ⟨(mem_nmB _ _).1 hu, (mem_nmB _ _).1 hd⟩
  · rintro ⟨h1, h2⟩
    exact ⟨p.us, (mem_nmB _ _).2 h1, List.mem_map.2 ⟨p.dv, (mem_nmB _ _).2 h2, rfl⟩⟩
theorem mem_rawL {ms : List ByteArray} {f : ByteArray → List ByteArray} {p : Hd.Rc} : p ∈ rawL ms f ↔ p.us ∈ ms ∧ p.dv ∈ f p.us := by
  unfold rawL
  rw [List.mem_flatMap]
  constructor
  · rintro ⟨u, hu, hp⟩
    obtain ⟨d, hd, rfl⟩ := List.mem_map.1 hp
    exact ⟨(mem_nmB _ _).1 hu, hd⟩
  · rintro ⟨h1, h2⟩
    exact ⟨p.us, (mem_nmB _ _).2 h1, List.mem_map.2 ⟨p.dv, h2, rfl⟩⟩
theorem srt_holdL (ms : List ByteArray) (f : ByteArray → List ByteArray) : Hd.Srt (holdL ms f) := by
  unfold Hd.Srt holdL
  rw [List.pairwise_flatMap]
  refine ⟨fun u hu => ?_, (srt_nmB ms).imp ?_⟩
  · rw [List.pairwise_map]
    exact (srt_nmB (f u)).imp fun {a b} h => .inr ⟨rfl, h⟩
  · intro a b h x hx y hy
    obtain ⟨d, _, rfl⟩ := List.mem_map.1 hx
    obtain ⟨e, _, rfl⟩ := List.mem_map.1 hy
    exact .inl h
/-- The sorted raw list without its repeats. -/
theorem cpt_raw {ms : List ByteArray} {f : ByteArray → List ByteArray} {zs : List Hd.Rc} (hp : zs.Perm (rawL ms f)) (hs : ∀ i j, i < j → j < zs.length → ¬ Hd.ltR (zs.getD j Hd.t0) (zs.getD i Hd.t0)) : Hd.cptUp zs zs.length = holdL ms f :=
  Hd.cpt_eq hs (srt_holdL ms f) fun x => by rw [hp.mem_iff, mem_rawL, mem_holdL]
end Go.Proofs.YtbkchcpfnoclhaaGreat
