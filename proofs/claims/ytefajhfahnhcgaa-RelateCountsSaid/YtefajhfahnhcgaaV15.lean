/- Relations: the counts of reactions, in pure words. No program. -/
import Derived.Test.YtefajhfahnhcgaaR1
import Derived.Test.YtefajhfahnhcgaaV6
import Derived.ChangeKeysEq
namespace Go.Proofs.Ytefajhfahnhcgaa
open Go Go.RowKit
set_option linter.unusedVariables false
set_option linter.unusedSimpArgs false

theorem tri {a b : List UInt8} (h : ¬ a < b) (hne : a ≠ b) : b < a := by
  by_cases h2 : b < a
  · exact h2
  · exact absurd (List.le_antisymm (List.not_lt.1 h2) (List.not_lt.1 h)) hne
theorem eq_of_toList {a b : ByteArray} (h : a.toList = b.toList) : a = b := by
  rw [Lib.toList_data, Lib.toList_data] at h
  apply ByteArray.ext
  exact Array.toList_inj.1 h
namespace Cn
/-- By increasing texts. -/
def Srt (l : List Rc) : Prop := l.Pairwise (fun p q => p.tx.toList < q.tx.toList)
/-- Each text with its number, where that is positive. -/
def Cnt (f : ByteArray → Int) (l : List Rc) : Prop := ∀ p : Rc, p ∈ l ↔ (p.n = f p.tx ∧ 0 < p.n)
/-- One more of a text. -/
def inc (t : ByteArray) : List Rc → List Rc
  | [] => [⟨t, 1⟩]
  | q :: r => if q.tx.toList < t.toList then q :: inc t r else if q.tx = t then ⟨t, q.n + 1⟩ :: r else ⟨t, 1⟩ :: q :: r
theorem srt_unique : ∀ {a b : List Rc}, Srt a → Srt b → (∀ x, x ∈ a ↔ x ∈ b) → a = b
  | [], [], _, _, _ => rfl
  | [], y :: s, _, _, h => absurd ((h y).2 List.mem_cons_self) (by simp)
  | x :: r, [], _, _, h => absurd ((h x).1 List.mem_cons_self) (by simp)
  | x :: r, y :: s, ha, hb, h => by
    unfold Srt at ha hb
    rw [List.pairwise_cons] at ha hb
    have hxy : x = y := by
      rcases List.mem_cons.1 ((h x).1 List.mem_cons_self) with e | e
      · exact e
      · rcases List.mem_cons.1 ((h y).2 List.mem_cons_self) with e2 | e2
        · exact e2.symm
        · exact absurd (List.lt_trans (hb.1 x e) (ha.1 y e2)) (List.lt_irrefl _)
    subst hxy
    rw [srt_unique ha.2 hb.2 (fun z => ?_)]
    constructor
    · intro hz
      rcases List.mem_cons.1 ((h z).1 (List.mem_cons_of_mem _ hz)) with e | e
      · subst e; exact absurd (ha.1 z hz) (List.lt_irrefl _)
      · exact e
    · intro hz
      rcases List.mem_cons.1 ((h z).2 (List.mem_cons_of_mem _ hz)) with e | e
      · subst e; exact absurd (hb.1 z hz) (List.lt_irrefl _)
      · exact e
theorem uniq {f : ByteArray → Int} {a b : List Rc} (ha : Srt a) (hb : Srt b) (ca : Cnt f a) (cb : Cnt f b) : a = b := srt_unique ha hb fun x => (ca x).trans (cb x).symm
theorem inc_tx {t : ByteArray} : ∀ {l : List Rc} {p : Rc}, p ∈ inc t l → p.tx = t ∨ ∃ q ∈ l, q.tx = p.tx
  | [], p, h => by
    rw [inc, List.mem_singleton] at h
    subst h; exact .inl rfl
  | q :: r, p, h => by
    rw [inc] at h
    split at h
    · rcases List.mem_cons.1 h with e | e
      · subst e; exact .inr ⟨p, List.mem_cons_self, rfl⟩
      · rcases inc_tx e with h1 | ⟨x, hx, h1⟩
        · exact .inl h1
        · exact .inr ⟨x, List.mem_cons_of_mem _ hx, h1⟩
    · split at h
      · rcases List.mem_cons.1 h with e | e
        · subst e; exact .inl rfl
        · exact .inr ⟨p, List.mem_cons_of_mem _ e, rfl⟩
      · rcases List.mem_cons.1 h with e | e
        · subst e; exact .inl rfl
        · exact .inr ⟨p, e, rfl⟩
theorem inc_srt {t : ByteArray} : ∀ {l : List Rc}, Srt l → Srt (inc t l)
  | [], _ => by rw [inc]; exact List.pairwise_singleton _ _
  | q :: r, h => by
    unfold Srt at h ⊢
    rw [List.pairwise_cons] at h
    rw [inc]
    split
    · rename_i hlt
      rw [List.pairwise_cons]
      refine ⟨fun p hp => ?_, inc_srt h.2⟩
      rcases inc_tx hp with e | ⟨x, hx, e⟩
      · rw [e]; exact hlt
      · rw [← e]; exact h.1 x hx
    · rename_i hlt
      split
      · rename_i he
        rw [List.pairwise_cons]
        exact ⟨fun p hp => by show t.toList < _; rw [← he]; exact h.1 p hp, h.2⟩
      · rename_i he
        have htq : t.toList < q.tx.toList := tri hlt (fun e => he (eq_of_toList e))
        rw [List.pairwise_cons, List.pairwise_cons]
        refine ⟨fun p hp => ?_, h⟩
        rcases List.mem_cons.1 hp with e | e
        · subst e; exact htq
        · exact List.lt_trans htq (h.1 p e)
theorem inc_mem {t : ByteArray} : ∀ {l : List Rc}, Srt l → ∀ p : Rc, p ∈ inc t l ↔ (p ∈ l ∧ p.tx ≠ t) ∨ (p.tx = t ∧ ((∃ q ∈ l, q.tx = t ∧ p.n = q.n + 1) ∨ ((∀ q ∈ l, q.tx ≠ t) ∧ p.n = 1)))
  | [], _, p => by
    rw [inc, List.mem_singleton]
    constructor
    · intro e; subst e; exact .inr ⟨rfl, .inr ⟨fun q hq => by simp at hq, rfl⟩⟩
    · rintro (⟨h, _⟩ | ⟨h1, ⟨q, hq, _⟩ | ⟨_, h2⟩⟩)
      · simp at h
      · simp at hq
      · exact Rc.ext h1 h2
  | q :: r, h, p => by
    unfold Srt at h
    rw [List.pairwise_cons] at h
    rw [inc]
    have hqr : ∀ x ∈ r, x.tx ≠ q.tx := fun x hx e => by
      have := h.1 x hx
      rw [e] at this
      exact List.lt_irrefl _ this
    split
    · rename_i hlt
      have hqt : q.tx ≠ t := fun e => by rw [e] at hlt; exact List.lt_irrefl _ hlt
      rw [List.mem_cons, inc_mem h.2 p]
      constructor
      · rintro (e | ⟨h1, h2⟩ | ⟨h1, ⟨x, hx, h2⟩ | ⟨h2, h3⟩⟩)
        · subst e; exact .inl ⟨List.mem_cons_self, hqt⟩
        · exact .inl ⟨List.mem_cons_of_mem _ h1, h2⟩
        · exact .inr ⟨h1, .inl ⟨x, List.mem_cons_of_mem _ hx, h2⟩⟩
        · refine .inr ⟨h1, .inr ⟨fun y hy => ?_, h3⟩⟩
          rcases List.mem_cons.1 hy with e | e
          · subst e; exact hqt
          · exact h2 y e
      · rintro (⟨h1, h2⟩ | ⟨h1, ⟨x, hx, h2⟩ | ⟨h2, h3⟩⟩)
        · rcases List.mem_cons.1 h1 with e | e
          · exact .inl e
          · exact .inr (.inl ⟨e, h2⟩)
        · rcases List.mem_cons.1 hx with e | e
          · subst e; exact absurd h2.1 hqt
          · exact .inr (.inr ⟨h1, .inl ⟨x, e, h2⟩⟩)
        · exact .inr (.inr ⟨h1, .inr ⟨fun y hy => h2 y (List.mem_cons_of_mem _ hy), h3⟩⟩)
    · rename_i hlt
      split
      · rename_i he
        subst he
        rw [List.mem_cons]
        constructor
        · rintro (e | e)
          · subst e; exact .inr ⟨rfl, .inl ⟨q, List.mem_cons_self, rfl, rfl⟩⟩
          · exact .inl ⟨List.mem_cons_of_mem _ e, hqr p e⟩
        · rintro (⟨h1, h2⟩ | ⟨h1, ⟨x, hx, h2, h3⟩ | ⟨h2, h3⟩⟩)
          · rcases List.mem_cons.1 h1 with e | e
            · subst e; exact absurd rfl h2
            · exact .inr e
          · rcases List.mem_cons.1 hx with e | e
            · subst e; exact .inl (Rc.ext h1 h3)
            · exact absurd h2 (hqr x e)
          · exact absurd rfl (h2 q List.mem_cons_self)
      · rename_i he
        have htq : t.toList < q.tx.toList := tri hlt (fun e => he (eq_of_toList e))
        have hno : ∀ x ∈ q :: r, x.tx ≠ t := fun x hx e => by
          rcases List.mem_cons.1 hx with e1 | e1
          · subst e1; exact he e
          · have := List.lt_trans htq (h.1 x e1)
            rw [e] at this
            exact List.lt_irrefl _ this
        rw [List.mem_cons]
        constructor
        · rintro (e | e)
          · subst e; exact .inr ⟨rfl, .inr ⟨hno, rfl⟩⟩
          · exact .inl ⟨e, hno p e⟩
        · rintro (⟨h1, h2⟩ | ⟨h1, ⟨x, hx, h2, h3⟩ | ⟨h2, h3⟩⟩)
          · exact .inr h1
          · exact absurd h2 (hno x hx)
          · exact .inl (Rc.ext h1 h3)
theorem inc_cnt {t : ByteArray} {l : List Rc} {f : ByteArray → Int} (hs : Srt l) (h : Cnt f l) (h0 : 0 ≤ f t) : Cnt (fun x => if x = t then f t + 1 else f x) (inc t l) := by
  intro p
  rw [inc_mem hs p]
  show _ ↔ (p.n = (if p.tx = t then f t + 1 else f p.tx) ∧ 0 < p.n)
  by_cases e : p.tx = t
  · rw [if_pos e]
    constructor
    · rintro (⟨_, h2⟩ | ⟨_, ⟨q, hq, h2, h3⟩ | ⟨h2, h3⟩⟩)
      · exact absurd e h2
      · have := (h q).1 hq
        rw [h2] at this
        omega
      · have : ¬ 0 < f t := fun h4 => h2 ⟨t, f t⟩ ((h ⟨t, f t⟩).2 ⟨rfl, h4⟩) rfl
        omega
    · rintro ⟨h2, h3⟩
      refine .inr ⟨e, ?_⟩
      by_cases h4 : 0 < f t
      · exact .inl ⟨⟨t, f t⟩, (h ⟨t, f t⟩).2 ⟨rfl, h4⟩, rfl, h2⟩
      · refine .inr ⟨fun q hq e2 => ?_, by omega⟩
        have := (h q).1 hq
        rw [e2] at this
        omega
  · rw [if_neg e]
    constructor
    · rintro (⟨h1, _⟩ | ⟨h1, _⟩)
      · exact (h p).1 h1
      · exact absurd h1 e
    · intro h1
      exact .inl ⟨(h p).2 h1, e⟩
end Cn
/-- The different pairs of a text and a sender. -/
def dstS (o : List (ByteArray × ByteArray)) (p : ByteArray × ByteArray) : List (ByteArray × ByteArray) := if o.any (fun q => decide (q = p)) = true then o else o ++ [p]
def dst (ps : List (ByteArray × ByteArray)) : List (ByteArray × ByteArray) := ps.foldl dstS []
theorem dst_snoc (ps : List (ByteArray × ByteArray)) (p : ByteArray × ByteArray) : dst (ps ++ [p]) = dstS (dst ps) p := by unfold dst; rw [List.foldl_append]; rfl
theorem dst_mem : ∀ {ps o : List (ByteArray × ByteArray)} {p : ByteArray × ByteArray}, p ∈ ps.foldl dstS o ↔ p ∈ o ∨ p ∈ ps
  | [], o, p => by simp
  | a :: r, o, p => by
    rw [List.foldl_cons, dst_mem, List.mem_cons]
    unfold dstS
    split
    · rename_i h
      rw [List.any_eq_true] at h
      obtain ⟨q, hq, he⟩ := h
      have : q = a := of_decide_eq_true he
      subst this
      constructor
      · rintro (h1 | h1)
        · exact .inl h1
        · exact .inr (.inr h1)
      · rintro (h1 | h1 | h1)
        · exact .inl h1
        · subst h1; exact .inl hq
        · exact .inr h1
    · rw [List.mem_append, List.mem_singleton]
      constructor
      · rintro ((h1 | h1) | h1)
        · exact .inl h1
        · exact .inr (.inl h1)
        · exact .inr (.inr h1)
      · rintro (h1 | h1 | h1)
        · exact .inl (.inl h1)
        · exact .inl (.inr h1)
        · exact .inr h1
/-- How many senders have reacted with a text. -/
def cntT (ds : List (ByteArray × ByteArray)) (t : ByteArray) : Int := ((ds.filter (fun p => decide (p.1 = t))).length : Int)
theorem cntT_snoc (ds : List (ByteArray × ByteArray)) (p : ByteArray × ByteArray) : cntT (ds ++ [p]) = fun x => if x = p.1 then cntT ds p.1 + 1 else cntT ds x := by
  funext x
  unfold cntT
  rw [List.filter_append]
  by_cases e : x = p.1
  · subst e
    rw [if_pos rfl]
    simp
  · rw [if_neg e]
    have : decide (p.1 = x) = false := decide_eq_false (fun h => e h.symm)
    simp [this]
theorem cntT_nn (ds : List (ByteArray × ByteArray)) (t : ByteArray) : 0 ≤ cntT ds t := Int.natCast_nonneg _
theorem cntT_le (ds : List (ByteArray × ByteArray)) (t : ByteArray) : cntT ds t ≤ ds.length := by unfold cntT; exact Int.ofNat_le.2 (List.length_filter_le _ _)
/-- The counts, by increasing texts. -/
def reac (ds : List (ByteArray × ByteArray)) : List Cn.Rc := ds.foldl (fun l p => Cn.inc p.1 l) []
theorem reac_snoc (ds : List (ByteArray × ByteArray)) (p : ByteArray × ByteArray) : reac (ds ++ [p]) = Cn.inc p.1 (reac ds) := by unfold reac; rw [List.foldl_append]; rfl
theorem snoc_ind {α : Type} {P : List α → Prop} (h0 : P []) (h1 : ∀ l c, P l → P (l ++ [c])) (l : List α) : P l := by
  rw [← List.reverse_reverse l]
  induction l.reverse with
  | nil => exact h0
  | cons c t ih => rw [List.reverse_cons]; exact h1 _ _ ih
theorem reac_ok (ds : List (ByteArray × ByteArray)) : Cn.Srt (reac ds) ∧ Cn.Cnt (cntT ds) (reac ds) := by
  refine snoc_ind (P := fun ds => Cn.Srt (reac ds) ∧ Cn.Cnt (cntT ds) (reac ds)) ⟨List.Pairwise.nil, fun p => ?_⟩ (fun l c ih => ?_) ds
  · constructor
    · intro h; simp [reac] at h
    · rintro ⟨h1, h2⟩
      have : cntT [] p.tx = 0 := rfl
      omega
  · rw [reac_snoc, cntT_snoc]
    exact ⟨Cn.inc_srt ih.1, Cn.inc_cnt ih.1 ih.2 (cntT_nn _ _)⟩
theorem reac_len (ds : List (ByteArray × ByteArray)) : (reac ds).length ≤ ds.length := by
  have hi : ∀ (t : ByteArray) (l : List Cn.Rc), (Cn.inc t l).length ≤ l.length + 1 := by
    intro t l
    induction l with
    | nil => exact Nat.le_refl _
    | cons q r ih =>
      rw [Cn.inc]
      split
      · simp only [List.length_cons]; omega
      · split <;> simp
  refine snoc_ind (P := fun ds => (reac ds).length ≤ ds.length) (Nat.le_refl _) (fun l c ih => ?_) ds
  rw [reac_snoc, List.length_append]
  have := hi c.1 (reac l)
  simp only [List.length_cons, List.length_nil]
  omega
/-- The pairs of the events. -/
def prs (E : Nat → Me) (is : List Nat) : List (ByteArray × ByteArray) := is.map (fun i => ((E i).tx, (E i).sd))
theorem dst_len (ps : List (ByteArray × ByteArray)) : (dst ps).length ≤ ps.length := by
  refine snoc_ind (P := fun ps => (dst ps).length ≤ ps.length) (Nat.le_refl _) (fun l c ih => ?_) ps
  rw [dst_snoc, List.length_append]
  unfold dstS
  split
  · simp only [List.length_cons, List.length_nil]; omega
  · rw [List.length_append]; simp only [List.length_cons, List.length_nil]; omega
end Go.Proofs.Ytefajhfahnhcgaa
