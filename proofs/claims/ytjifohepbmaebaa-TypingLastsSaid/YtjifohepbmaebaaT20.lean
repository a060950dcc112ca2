/- Who types: who types at a time, after Start and after Stop. No condition. -/
import Derived.Test.YtjifohepbmaebaaT19
namespace Go.Proofs.Ytjifohepbmaebaa
open Go.RowKit
set_option linter.unusedVariables false

/-- Texts as records, so that the laws of records serve them. -/
def asT (J : List I.Txt) : List Tp := (bs J).map fun y => (y, 0)
theorem nms_asT (J : List I.Txt) : nms (asT J) = bs J := by
  unfold nms asT
  rw [List.map_map]
  conv => rhs; rw [← List.map_id (bs J)]
  rfl
theorem asT_len (J : List I.Txt) : (asT J).length = J.length := by unfold asT bs; rw [List.length_map, List.length_map]
theorem key_mk (l : I.Txt) (z : Int) : key ((⟨l.toArray⟩ : ByteArray), z) = l := by
  unfold key
  rw [Lib.toList_data]
/-- The names of who types at a time. -/
def typ (tt : Int) (zs : List Tp) : List I.Txt := I.nm (tx (nms (zs.filter fun p => !pc tt p)))
theorem mem_typ {tt : Int} {zs : List Tp} {x : I.Txt} : x ∈ typ tt zs ↔ ∃ p ∈ zs, tt < p.2 ∧ key p = x := by
  unfold typ
  rw [I.mem_nm]
  unfold tx nms
  rw [List.map_map, List.mem_map]
  constructor
  · rintro ⟨p, hp, rfl⟩
    obtain ⟨h1, h2⟩ := List.mem_filter.1 hp
    refine ⟨p, h1, ?_, ?_⟩
    · unfold pc at h2; simpa using h2
    · unfold key; rw [Lib.toList_data]; rfl
  · rintro ⟨p, hp, h1, rfl⟩
    refine ⟨p, List.mem_filter.2 ⟨hp, ?_⟩, ?_⟩
    · unfold pc; simpa using h1
    · unfold key; rw [Lib.toList_data]; rfl
theorem any_asT (J : List I.Txt) (s : ByteArray) : (asT J).any (pu s) = true ↔ s.toList ∈ J := by
  rw [List.any_eq_true]
  constructor
  · rintro ⟨p, hp, hq⟩
    unfold asT bs at hp
    rw [List.map_map, List.mem_map] at hp
    obtain ⟨l, hl, rfl⟩ := hp
    have := pu_iff.1 hq
    rw [show ((fun y : ByteArray => (y, (0 : Int))) ∘ fun l : I.Txt => (⟨l.toArray⟩ : ByteArray)) l = ((⟨l.toArray⟩ : ByteArray), (0 : Int)) from rfl, key_mk] at this
    rw [← this]; exact hl
  · intro h
    refine ⟨((⟨s.toList.toArray⟩ : ByteArray), 0), ?_, pu_iff.2 (key_mk _ _)⟩
    unfold asT bs
    rw [List.map_map, List.mem_map]
    exact ⟨_, h, rfl⟩
theorem without_asT (J : List I.Txt) (s : ByteArray) : ((asT J).filter fun p => !pu s p) = asT (J.filter fun l => !(l == s.toList)) := by
  unfold asT bs
  rw [List.map_map, List.map_map, List.filter_map]
  congr 1
  apply List.filter_congr
  intro l _
  show (!pu s ((⟨l.toArray⟩ : ByteArray), (0 : Int))) = _
  congr 1
  have : pu s ((⟨l.toArray⟩ : ByteArray), (0 : Int)) = (key ((⟨l.toArray⟩ : ByteArray), (0 : Int)) == s.toList) := rfl
  rw [this, key_mk]
theorem uniq {zs : List Tp} (h : Right zs) {p q : Tp} (hp : p ∈ zs) (hq : q ∈ zs) (e : key p = key q) : p = q := by
  have hu := h.up
  rw [List.pairwise_map, List.pairwise_iff_getElem] at hu
  obtain ⟨i, hi, rfl⟩ := List.getElem_of_mem hp
  obtain ⟨j, hj, rfl⟩ := List.getElem_of_mem hq
  rcases Nat.lt_trichotomy i j with h1 | h1 | h1
  · have := hu i j hi hj h1; rw [e] at this; exact absurd this (List.lt_irrefl _)
  · subst h1; rfl
  · have := hu j i hj hi h1; rw [e] at this; exact absurd this (List.lt_irrefl _)
theorem mem_put_new {x : Tp} {zs : List Tp} : x ∈ putT x zs := by
  rcases fidx_cases (pu x.1) zs with ⟨e, _⟩ | ⟨k, hk, e, _, _⟩
  · rw [putT_none e]; unfold Ytjifohepbmaebaa.ins; simp
  · rw [putT_some e]
    exact List.mem_set hk x
theorem mem_put_old {x p : Tp} {zs : List Tp} (hne : key p ≠ key x) : p ∈ putT x zs ↔ p ∈ zs := by
  rcases fidx_cases (pu x.1) zs with ⟨e, _⟩ | ⟨k, hk, e, hq, _⟩
  · rw [putT_none e]
    unfold Ytjifohepbmaebaa.ins
    rw [List.mem_append, List.mem_cons]
    constructor
    · rintro (h | h | h)
      · exact List.mem_of_mem_take h
      · rw [h] at hne; exact absurd rfl hne
      · exact List.mem_of_mem_drop h
    · intro h
      rw [← List.take_append_drop (zs.findIdx (pb x.1)) zs, List.mem_append] at h
      rcases h with h | h
      · exact .inl h
      · exact .inr (.inr h)
  · rw [putT_some e]
    constructor
    · intro h
      rcases List.mem_or_eq_of_mem_set h with h | h
      · exact h
      · rw [h] at hne; exact absurd rfl hne
    · intro h
      obtain ⟨j, hj, rfl⟩ := List.getElem_of_mem h
      have hjk : k ≠ j := by
        rintro rfl
        rw [getD_at hk] at hq
        exact hne (pu_iff.1 hq)
      rw [List.mem_iff_getElem]
      exact ⟨j, by rw [List.length_set]; exact hj, List.getElem_set_ne hjk _⟩
variable {s : ByteArray} {now span : Int} {zs : List Tp}
theorem outT_put (he : ert s now span = 0) : outT s now span zs = putT (s, now + span) zs := if_pos he
/-- After Start the user types until now + span. -/
theorem is_new (h : Right zs) (he : ert s now span = 0) (tt : Int) : (asT (typ tt (outT s now span zs))).any (pu s) = decide (tt < now + span) := by
  rw [Bool.eq_iff_iff, any_asT, mem_typ, decide_eq_true_iff, outT_put he]
  constructor
  · rintro ⟨p, hp, h1, h2⟩
    have := uniq (h.put (okT_new he)) hp mem_put_new (show key p = key (s, now + span) from h2)
    rw [this] at h1
    exact h1
  · intro h1
    exact ⟨(s, now + span), mem_put_new, h1, rfl⟩
/-- All others type as before. -/
theorem is_old (he : ert s now span = 0) (tt : Int) : ((asT (typ tt (outT s now span zs))).filter fun p => !pu s p) = ((asT (typ tt zs)).filter fun p => !pu s p) := by
  rw [without_asT, without_asT, outT_put he]
  congr 1
  refine I.srt_unique ((I.srt_nm _).filter _) ((I.srt_nm _).filter _) fun x => ?_
  rw [List.mem_filter, List.mem_filter]
  have key2 : x ≠ s.toList → (x ∈ typ tt (putT (s, now + span) zs) ↔ x ∈ typ tt zs) := by
    intro hx
    rw [mem_typ, mem_typ]
    constructor
    · rintro ⟨p, hp, h1, h2⟩
      exact ⟨p, (mem_put_old (x := (s, now + span)) (by rw [h2]; exact hx)).1 hp, h1, h2⟩
    · rintro ⟨p, hp, h1, h2⟩
      exact ⟨p, (mem_put_old (x := (s, now + span)) (by rw [h2]; exact hx)).2 hp, h1, h2⟩
  by_cases hx : x = s.toList
  · subst hx; simp
  · exact and_congr_left fun _ => key2 hx
/-- After Stop the user types at no time. -/
theorem is_gone (ys : List Tp) (tt : Int) : (asT (typ tt (ys.filter fun p => !pu s p))).any (pu s) = false := by
  cases hb : (asT (typ tt (ys.filter fun p => !pu s p))).any (pu s) with
  | false => rfl
  | true =>
    rw [any_asT, mem_typ] at hb
    obtain ⟨p, hp, _, h2⟩ := hb
    have h3 := (List.mem_filter.1 hp).2
    rw [pu_iff.2 h2] at h3
    cases h3
theorem typ_len (tt : Int) (ys : List Tp) : (asT (typ tt ys)).length ≤ ys.length := by
  rw [asT_len]
  refine Nat.le_trans (I.length_nm _) ?_
  rw [tx_len]
  unfold nms
  rw [List.length_map]
  exact List.length_filter_le _ _
theorem now21_t (A : Option Addr) (n c : Nat) (zs : List Tp) (x : Int) (w : World) (h : Tps w A n c zs) (hn : n ≤ 1000000) : Calls Try.prog 21 #[.slice A n c, .int .i64 x] w (WoP w (asT (typ x zs))) :=
  (now21 A n c zs x w h hn).mono fun e w' ⟨A', c', h1, _, h2, h3⟩ => ⟨A', c', by rw [asT_len]; exact h1, by rw [asT_len, nms_asT]; exact h2, h3⟩
end Go.Proofs.Ytjifohepbmaebaa
