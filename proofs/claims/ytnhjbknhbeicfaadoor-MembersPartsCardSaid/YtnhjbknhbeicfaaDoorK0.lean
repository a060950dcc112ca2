/- Memberships, on plain lists: who is what, and the lists of those who are something. No program. -/
import Derived.Test.YtnhjbknhbeicfaaDoorI0
namespace Go.Proofs.YtnhjbknhbeicfaaDoor
set_option linter.unusedVariables false

/-- What counts of an event. -/
structure Co where
  kd : Int
  key : I.Txt
  n : Int
def co0 : Co := ⟨0, [], 0⟩
/-- It gives x a membership. -/
def gvC (x : I.Txt) (c : Co) : Bool := c.kd == 2 && c.key == x
def memC (l : List Co) (x : I.Txt) : Int := match l.find? (gvC x) with | some c => c.n | none => 0
/-- x has the membership m by an event. -/
def WS (l : List Co) (m : Int) (x : I.Txt) : Prop := ∃ c, l.find? (gvC x) = some c ∧ c.n = m
def wlC (l : List Co) (m : Int) : List I.Txt := (l.filter fun c => c.kd == 2 && memC l c.key == m).map Co.key
theorem gv_iff {x : I.Txt} {c : Co} : gvC x c = true ↔ c.kd = 2 ∧ c.key = x := by unfold gvC; rw [Bool.and_eq_true, beq_iff_eq, beq_iff_eq]
theorem mem_wl (l : List Co) (m : Int) (x : I.Txt) : x ∈ wlC l m ↔ WS l m x := by
  unfold wlC WS
  rw [List.mem_map]
  constructor
  · rintro ⟨c, hc, rfl⟩
    rw [List.mem_filter, Bool.and_eq_true, beq_iff_eq, beq_iff_eq] at hc
    obtain ⟨hm, hk, hv⟩ := hc
    cases e : l.find? (gvC c.key) with
    | none =>
      have := List.find?_eq_none.1 e c hm
      exact absurd (gv_iff.2 ⟨hk, rfl⟩) this
    | some d =>
      refine ⟨d, rfl, ?_⟩
      unfold memC at hv
      rw [e] at hv
      exact hv
  · rintro ⟨c, hc, hn⟩
    have h1 := gv_iff.1 (List.find?_some hc)
    refine ⟨c, ?_, h1.2⟩
    rw [List.mem_filter, Bool.and_eq_true, beq_iff_eq, beq_iff_eq]
    refine ⟨List.mem_of_find?_eq_some hc, h1.1, ?_⟩
    unfold memC
    rw [h1.2, hc]
    exact hn
theorem find_snoc (l : List Co) (c : Co) (x : I.Txt) : (l ++ [c]).find? (gvC x) = (l.find? (gvC x)).or (if gvC x c then some c else none) := by
  rw [List.find?_append, List.find?_singleton]
/-- Who has been seen, and who among them is m, after some events. -/
structure Sn (l : List Co) (m : Int) (seen us : List I.Txt) : Prop where
  sn : ∀ x, x ∈ seen ↔ (l.find? (gvC x)).isSome = true
  us : ∀ x, x ∈ us ↔ WS l m x
theorem Sn.nil (m : Int) : Sn [] m [] [] := ⟨fun x => by simp, fun x => by unfold WS; simp⟩
theorem Sn.other {l : List Co} {m : Int} {seen us : List I.Txt} (h : Sn l m seen us) {c : Co} (hc : ¬ c.kd = 2) : Sn (l ++ [c]) m seen us := by
  have e : ∀ x, (l ++ [c]).find? (gvC x) = l.find? (gvC x) := fun x => by
    rw [find_snoc, if_neg (fun h => hc (gv_iff.1 h).1)]; simp
  exact ⟨fun x => by rw [e]; exact h.sn x, fun x => by unfold WS; rw [e]; exact h.us x⟩
theorem Sn.old {l : List Co} {m : Int} {seen us : List I.Txt} (h : Sn l m seen us) {c : Co} (hs : c.key ∈ seen) : Sn (l ++ [c]) m seen us := by
  have e : ∀ x, (l ++ [c]).find? (gvC x) = l.find? (gvC x) := fun x => by
    rw [find_snoc]
    by_cases hx : gvC x c = true
    · rw [if_pos hx]
      rw [(gv_iff.1 hx).2] at hs
      have := (h.sn x).1 hs
      cases e : l.find? (gvC x) with
      | none => rw [e] at this; cases this
      | some d => rfl
    · rw [if_neg hx]; simp
  exact ⟨fun x => by rw [e]; exact h.sn x, fun x => by unfold WS; rw [e]; exact h.us x⟩
theorem Sn.new {l : List Co} {m : Int} {seen us : List I.Txt} (h : Sn l m seen us) {c : Co} (hk : c.kd = 2) (hs : ¬ c.key ∈ seen) : Sn (l ++ [c]) m (seen ++ [c.key]) (if c.n = m then us ++ [c.key] else us) := by
  have h0 : l.find? (gvC c.key) = none := by
    cases e : l.find? (gvC c.key) with
    | none => rfl
    | some d => exact absurd ((h.sn c.key).2 (by rw [e]; rfl)) hs
  have e1 : (l ++ [c]).find? (gvC c.key) = some c := by rw [find_snoc, h0, if_pos (gv_iff.2 ⟨hk, rfl⟩)]; rfl
  have e2 : ∀ x, x ≠ c.key → (l ++ [c]).find? (gvC x) = l.find? (gvC x) := fun x hx => by
    rw [find_snoc, if_neg (fun hg => hx (gv_iff.1 hg).2.symm)]; simp
  constructor
  · intro x
    by_cases hx : x = c.key
    · subst hx; rw [e1]; simp
    · rw [e2 x hx, ← h.sn x]; simp [hx]
  · intro x
    by_cases hx : x = c.key
    · subst hx
      unfold WS
      rw [e1]
      by_cases hn : c.n = m
      · rw [if_pos hn]; simp [hn]
      · rw [if_neg hn, h.us]
        unfold WS
        rw [h0]
        simp [hn]
    · have : x ∈ (if c.n = m then us ++ [c.key] else us) ↔ x ∈ us := by split <;> simp [hx]
      rw [this, h.us x]
      unfold WS
      rw [e2 x hx]
theorem Sn.nm {l : List Co} {m : Int} {seen us : List I.Txt} (h : Sn l m seen us) : I.nm us = I.nm (wlC l m) := I.nm_congr fun x => by rw [h.us, mem_wl]
/-- The reference's list grows by each event's key. -/
def Gs (l : List Co) (m : Int) (k : Nat) (out : List I.Txt) : Prop := I.Srt out ∧ ∀ x, x ∈ out ↔ ∃ c ∈ l.take k, c.kd = 2 ∧ c.key = x ∧ memC l x = m
theorem Gs.nil (l : List Co) (m : Int) : Gs l m 0 [] := ⟨List.Pairwise.nil, fun x => by simp⟩
theorem Gs.skip {l : List Co} {m : Int} {k : Nat} {out : List I.Txt} (h : Gs l m k out) (hk : k < l.length) (hc : ¬ (l[k].kd = 2 ∧ memC l l[k].key = m)) : Gs l m (k + 1) out := by
  refine ⟨h.1, fun x => ?_⟩
  rw [h.2, List.take_succ_eq_append_getElem hk]
  constructor
  · rintro ⟨c, hm, r⟩; exact ⟨c, List.mem_append_left _ hm, r⟩
  · rintro ⟨c, hm, h1, h2, h3⟩
    rcases List.mem_append.1 hm with h4 | h4
    · exact ⟨c, h4, h1, h2, h3⟩
    · obtain rfl : c = l[k] := by simpa using h4
      exact absurd ⟨h1, by rw [h2]; exact h3⟩ hc
theorem Gs.add {l : List Co} {m : Int} {k : Nat} {out out' : List I.Txt} (h : Gs l m k out) (hk : k < l.length) (h1 : l[k].kd = 2) (h2 : memC l l[k].key = m) (hs : I.Srt out') (hm : ∀ x, x ∈ out' ↔ x = l[k].key ∨ x ∈ out) : Gs l m (k + 1) out' := by
  refine ⟨hs, fun x => ?_⟩
  rw [hm, h.2, List.take_succ_eq_append_getElem hk]
  constructor
  · rintro (rfl | ⟨c, hc, r⟩)
    · exact ⟨l[k], List.mem_append_right _ (by simp), h1, rfl, h2⟩
    · exact ⟨c, List.mem_append_left _ hc, r⟩
  · rintro ⟨c, hc, a, b, d⟩
    rcases List.mem_append.1 hc with h4 | h4
    · exact .inr ⟨c, h4, a, b, d⟩
    · obtain rfl : c = l[k] := by simpa using h4
      exact .inl b.symm
theorem Gs.nm {l : List Co} {m : Int} {out : List I.Txt} (h : Gs l m l.length out) : out = I.nm (wlC l m) := I.nm_eq h.1 fun x => by
  rw [h.2, List.take_length, mem_wl]
  unfold WS
  constructor
  · rintro ⟨c, hc, a, b, d⟩
    cases e : l.find? (gvC x) with
    | none => exact absurd (gv_iff.2 ⟨a, b⟩) (List.find?_eq_none.1 e c hc)
    | some z =>
      refine ⟨z, rfl, ?_⟩
      unfold memC at d
      rw [e] at d
      exact d
  · rintro ⟨c, hc, hn⟩
    have h1 := gv_iff.1 (List.find?_some hc)
    refine ⟨c, List.mem_of_find?_eq_some hc, h1.1, h1.2, ?_⟩
    unfold memC
    rw [hc]
    exact hn
/-- A text put into its place, once. -/
def plc (o : List I.Txt) (x : I.Txt) : Nat := o.findIdx fun y => !decide (y < x)
def putT (o : List I.Txt) (x : I.Txt) : List I.Txt := if o.getD (plc o x) [] = x ∧ plc o x < o.length then o else o.take (plc o x) ++ x :: o.drop (plc o x)
theorem plc_le (o : List I.Txt) (x : I.Txt) : plc o x ≤ o.length := List.findIdx_le_length
theorem plc_lt {o : List I.Txt} {x : I.Txt} {j : Nat} (h : j < plc o x) : o.getD j [] < x := by
  have h2 : j < o.length := Nat.lt_of_lt_of_le h (plc_le o x)
  have := List.not_of_lt_findIdx h
  rw [List.getD_eq_getElem?_getD, List.getElem?_eq_getElem h2]
  simpa using this
theorem plc_at {o : List I.Txt} {x : I.Txt} (h : plc o x < o.length) : ¬ o.getD (plc o x) [] < x := by
  intro hlt
  rw [List.getD_eq_getElem?_getD, List.getElem?_eq_getElem h] at hlt
  have h1 : (!decide (o[plc o x] < x)) = true := List.findIdx_getElem (w := h)
  rw [decide_eq_true (show o[plc o x] < x from hlt)] at h1
  cases h1
theorem put_srt {o : List I.Txt} (h : I.Srt o) (x : I.Txt) : I.Srt (putT o x) := by
  unfold putT
  split
  · exact h
  · rename_i hc
    refine I.srt_put h (plc_le o x) x (fun j hj => plc_lt hj) (fun hl => ?_)
    have h1 := plc_at hl
    rcases Std.lt_trichotomy (o.getD (plc o x) []) x with h2 | h2 | h2
    · exact absurd h2 h1
    · exact absurd ⟨h2, hl⟩ hc
    · exact h2
theorem put_mem (o : List I.Txt) (x : I.Txt) : ∀ y, y ∈ putT o x ↔ y = x ∨ y ∈ o := by
  intro y
  unfold putT
  split
  · rename_i hc
    constructor
    · exact .inr
    · rintro (rfl | h)
      · rw [← hc.1]; exact I.getD_mem hc.2
      · exact h
  · exact I.mem_put x y
theorem put_len (o : List I.Txt) (x : I.Txt) : (putT o x).length ≤ o.length + 1 := by
  unfold putT
  split
  · omega
  · have := plc_le o x
    rw [List.length_append, List.length_cons, List.length_take, List.length_drop]; omega
end Go.Proofs.YtnhjbknhbeicfaaDoor
