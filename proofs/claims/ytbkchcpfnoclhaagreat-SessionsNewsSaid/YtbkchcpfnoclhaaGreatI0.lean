/- Plain mathematics of identifiers and of sorted lists of names: no program. -/
namespace Go.Proofs.YtbkchcpfnoclhaaGreat.I
set_option linter.unusedVariables false

/-- A small letter or a digit. -/
def letB (c : Int) : Bool := decide ((97 ≤ c ∧ c ≤ 122) ∨ (48 ≤ c ∧ c ≤ 57))
def locB (c : Int) : Bool := letB c || decide (c = 95 ∨ c = 46 ∨ c = 45 ∨ c = 61)
def srvB (c : Int) : Bool := letB c || decide (c = 46 ∨ c = 45)
def isPart (p : Int → Bool) (l : List Int) : Bool := decide (1 ≤ l.length ∧ l.length ≤ 32) && l.all p
def isLoc (l : List Int) : Bool := isPart locB l
def isSrv (l : List Int) : Bool := isPart srvB l && (letB (l.getD 0 0) && letB (l.getD (l.length - 1) 0))
/-- The place of the first colon, or the length. -/
def col (l : List Int) : Nat := l.findIdx (· == 58)
/-- An identifier with the mark m. -/
def mkd (m : Int) (l : List Int) : Bool := decide (1 ≤ l.length ∧ l.getD 0 0 = m ∧ col l < l.length) && (isLoc ((l.take (col l)).drop 1) && isSrv (l.drop (col l + 1)))

theorem col_le (l : List Int) : col l ≤ l.length := List.findIdx_le_length
theorem col_none {l : List Int} (h : ∀ j, j < l.length → l.getD j 0 ≠ 58) : col l = l.length := by
  unfold col
  rw [List.findIdx_eq_length]
  intro x hx
  obtain ⟨j, hj, rfl⟩ := List.getElem_of_mem hx
  have := h j hj
  rw [List.getD_eq_getElem?_getD, List.getElem?_eq_getElem hj] at this
  simpa using this
theorem col_some {l : List Int} {k : Nat} (hk : k < l.length) (h : ∀ j, j < k → l.getD j 0 ≠ 58) (hc : l.getD k 0 = 58) : col l = k := by
  unfold col
  rw [List.findIdx_eq hk]
  rw [List.getD_eq_getElem?_getD, List.getElem?_eq_getElem hk] at hc
  refine ⟨by simpa using hc, fun j hj => ?_⟩
  have := h j hj
  rw [List.getD_eq_getElem?_getD, List.getElem?_eq_getElem (by omega)] at this
  simpa using this
theorem col_at {l : List Int} (h : col l < l.length) : l.getD (col l) 0 = 58 ∧ ∀ j, j < col l → l.getD j 0 ≠ 58 := by
  have := (List.findIdx_eq (p := (· == (58 : Int))) (xs := l) (i := col l) h).1 rfl
  refine ⟨?_, fun j hj => ?_⟩
  · rw [List.getD_eq_getElem?_getD, List.getElem?_eq_getElem h]; simpa using this.1
  · have h2 := this.2 j hj
    rw [List.getD_eq_getElem?_getD, List.getElem?_eq_getElem (by omega)]; simpa using h2
theorem col_not {l : List Int} (h : ¬ col l < l.length) : ∀ j, j < l.length → l.getD j 0 ≠ 58 := by
  intro j hj e
  have : col l < l.length := List.findIdx_lt_length.2 ⟨l[j], List.getElem_mem hj, by
    rw [List.getD_eq_getElem?_getD, List.getElem?_eq_getElem hj] at e; simpa using e⟩
  exact h this
theorem col_cons {c : Int} (l : List Int) (h : c ≠ 58) : col (c :: l) = col l + 1 := by
  unfold col
  rw [List.findIdx_cons]
  have : (c == 58) = false := by simpa using h
  rw [this]; rfl
theorem col_append_colon (a b : List Int) (h : ∀ x ∈ a, x ≠ 58) : col (a ++ 58 :: b) = a.length := by
  refine col_some (by simp) (fun j hj => ?_) (by simp [List.getD_eq_getElem?_getD])
  rw [List.getD_eq_getElem?_getD, List.getElem?_append_left hj, List.getElem?_eq_getElem hj]
  exact h _ (List.getElem_mem hj)
theorem locB_ne {c : Int} (h : locB c = true) : c ≠ 58 := by
  rintro rfl; revert h; decide
theorem isLoc_ne {l : List Int} (h : isLoc l = true) : ∀ x ∈ l, x ≠ 58 := by
  intro x hx
  unfold isLoc isPart at h
  rw [Bool.and_eq_true, List.all_eq_true] at h
  exact locB_ne (h.2 x hx)
theorem isPart_len {p : Int → Bool} {l : List Int} (h : isPart p l = true) : 1 ≤ l.length ∧ l.length ≤ 32 := by
  unfold isPart at h
  rw [Bool.and_eq_true, decide_eq_true_iff] at h
  exact h.1
theorem isLoc_len {l : List Int} (h : isLoc l = true) : 1 ≤ l.length ∧ l.length ≤ 32 := isPart_len h
theorem isSrv_len {l : List Int} (h : isSrv l = true) : 1 ≤ l.length ∧ l.length ≤ 32 := by
  unfold isSrv at h
  rw [Bool.and_eq_true] at h
  exact isPart_len h.1
theorem isPart_snoc (p : Int → Bool) (l : List Int) (c : Int) : (l ++ [c]).all p = (l.all p && p c) := by simp
theorem mkd_iff {m : Int} {l : List Int} : mkd m l = true ↔ (1 ≤ l.length ∧ l.getD 0 0 = m ∧ col l < l.length) ∧ isLoc ((l.take (col l)).drop 1) = true ∧ isSrv (l.drop (col l + 1)) = true := by
  unfold mkd
  rw [Bool.and_eq_true, Bool.and_eq_true, decide_eq_true_iff]
theorem mkd_false {m : Int} {l : List Int} (h : ¬ ((1 ≤ l.length ∧ l.getD 0 0 = m ∧ col l < l.length) ∧ isLoc ((l.take (col l)).drop 1) = true ∧ isSrv (l.drop (col l + 1)) = true)) : mkd m l = false := by
  cases e : mkd m l
  · rfl
  · exact absurd (mkd_iff.1 e) h
theorem mkd_parts {m : Int} {l : List Int} (h : mkd m l = true) : l = m :: ((l.take (col l)).drop 1 ++ 58 :: l.drop (col l + 1)) := by
  obtain ⟨⟨h1, h2, h3⟩, h4, h5⟩ := mkd_iff.1 h
  have hl := isLoc_len h4
  rw [List.length_drop, List.length_take] at hl
  obtain ⟨hc, _⟩ := col_at h3
  have e1 : l = l.take (col l) ++ l.drop (col l) := (List.take_append_drop _ _).symm
  have e2 : l.drop (col l) = 58 :: l.drop (col l + 1) := by
    rw [List.drop_eq_getElem_cons h3]
    rw [List.getD_eq_getElem?_getD, List.getElem?_eq_getElem h3] at hc
    simp only [Option.getD_some] at hc
    rw [hc]
  have e3 : l.take (col l) = m :: (l.take (col l)).drop 1 := by
    cases ht : l.take (col l) with
    | nil => have := congrArg List.length ht; rw [List.length_take, List.length_nil] at this; omega
    | cons x t =>
      simp only [List.drop_succ_cons, List.drop_zero, List.cons.injEq, and_true]
      rw [← h2]
      have : (l.take (col l)).getD 0 0 = x := by rw [ht]; rfl
      rw [List.getD_eq_getElem?_getD, List.getElem?_take, if_pos (by omega)] at this
      rw [List.getD_eq_getElem?_getD, this]
  conv => lhs; rw [e1, e2, e3]
  rfl
theorem mkd_make {m : Int} {a b : List Int} (hm : m ≠ 58) : mkd m (m :: (a ++ 58 :: b)) = true → isLoc ((((m :: (a ++ 58 :: b)).take (col (m :: (a ++ 58 :: b)))).drop 1)) = true := fun h => (mkd_iff.1 h).2.1
/-- Two marks at one text. -/
theorem mkd_mark {m n : Int} {l : List Int} (h : mkd m l = true) (h' : mkd n l = true) : m = n := by
  rw [← (mkd_iff.1 h).1.2.1, ← (mkd_iff.1 h').1.2.1]

/- Names. -/
abbrev Txt := List UInt8
def addNew (acc : List Txt) (x : Txt) : List Txt := if x ∈ acc then acc else acc ++ [x]
def ddp (acc l : List Txt) : List Txt := l.foldl addNew acc
def nm (l : List Txt) : List Txt := (ddp [] l).mergeSort fun x y => decide (x ≤ y)
theorem ddp_append (acc a b : List Txt) : ddp acc (a ++ b) = ddp (ddp acc a) b := by unfold ddp; rw [List.foldl_append]
theorem mem_ddp (l : List Txt) : ∀ (acc : List Txt) (x : Txt), x ∈ ddp acc l ↔ x ∈ acc ∨ x ∈ l := by
  unfold ddp
  induction l with
  | nil => intro acc x; simp
  | cons y l ih =>
    intro acc x
    rw [List.foldl_cons, ih]
    unfold addNew
    by_cases h : y ∈ acc
    · rw [if_pos h, List.mem_cons]
      constructor
      · exact fun h => h.elim .inl fun h => .inr (.inr h)
      · exact fun h1 => h1.elim .inl fun h1 => h1.elim (fun e => .inl (e ▸ h)) .inr
    · rw [if_neg h, List.mem_append, List.mem_singleton, List.mem_cons]
      constructor
      · exact fun h1 => h1.elim (fun h1 => h1.elim .inl fun h1 => .inr (.inl h1)) fun h1 => .inr (.inr h1)
      · exact fun h1 => h1.elim (fun h1 => .inl (.inl h1)) fun h1 => h1.elim (fun h1 => .inl (.inr h1)) .inr
theorem nodup_ddp (l : List Txt) : ∀ (acc : List Txt), acc.Nodup → (ddp acc l).Nodup := by
  unfold ddp
  induction l with
  | nil => intro acc h; exact h
  | cons y l ih =>
    intro acc h
    rw [List.foldl_cons]
    apply ih
    unfold addNew
    by_cases hy : y ∈ acc
    · rw [if_pos hy]; exact h
    · rw [if_neg hy, List.nodup_append]
      refine ⟨h, by simp, fun a ha b hb => ?_⟩
      rw [List.mem_singleton] at hb
      rintro rfl
      exact hy (hb ▸ ha)
theorem length_ddp (l : List Txt) : ∀ (acc : List Txt), (ddp acc l).length ≤ acc.length + l.length := by
  unfold ddp
  induction l with
  | nil => intro acc; simp
  | cons y l ih =>
    intro acc
    rw [List.foldl_cons]
    refine Nat.le_trans (ih _) ?_
    unfold addNew
    split <;> simp <;> omega
/-- Strictly increasing. -/
def Srt (o : List Txt) : Prop := o.Pairwise (· < ·)
theorem srt_nodup {o : List Txt} (h : Srt o) : o.Nodup := h.imp fun {a b} hab e => by
  subst e; exact List.lt_irrefl a hab
theorem srt_unique {a b : List Txt} (ha : Srt a) (hb : Srt b) (h : ∀ x, x ∈ a ↔ x ∈ b) : a = b := by
  refine List.Perm.eq_of_pairwise (le := (· < ·)) (fun x y _ _ h1 h2 => absurd h2 (List.lt_asymm h1)) ha hb ?_
  exact (List.perm_ext_iff_of_nodup (srt_nodup ha) (srt_nodup hb)).2 h
theorem mem_nm (l : List Txt) (x : Txt) : x ∈ nm l ↔ x ∈ l := by
  unfold nm
  rw [(List.mergeSort_perm _ _).mem_iff, mem_ddp]
  simp
theorem srt_nm (l : List Txt) : Srt (nm l) := by
  have h1 : (nm l).Pairwise fun a b => decide (a ≤ b) = true := List.pairwise_mergeSort
    (fun a b c h1 h2 => by simp only [decide_eq_true_iff] at *; exact List.le_trans h1 h2)
    (fun a b => by simp only [Bool.or_eq_true, decide_eq_true_iff]; exact List.le_total a b) _
  have h2 : (nm l).Nodup := ((List.mergeSort_perm _ _).nodup_iff).2 (nodup_ddp l [] (by simp))
  unfold Srt
  refine (h1.and h2).imp fun {a b} h => ?_
  simp only [decide_eq_true_iff] at h
  exact Std.lt_of_le_of_ne h.1 h.2
theorem nm_eq {o l : List Txt} (h : Srt o) (hm : ∀ x, x ∈ o ↔ x ∈ l) : o = nm l := srt_unique h (srt_nm l) fun x => by rw [hm, mem_nm]
theorem length_nm (l : List Txt) : (nm l).length ≤ l.length := by
  unfold nm
  rw [(List.mergeSort_perm _ _).length_eq]
  simpa using length_ddp l []
theorem nm_nm (l : List Txt) : nm (nm l) = nm l := (nm_eq (srt_nm l) fun x => Iff.rfl).symm
theorem nm_congr {a b : List Txt} (h : ∀ x, x ∈ a ↔ x ∈ b) : nm a = nm b := nm_eq (srt_nm a) fun x => by rw [mem_nm, h]

/-- The place of a text in a list, or -1. -/
def fnd (l : List Txt) (s : Txt) : Int := match l.findIdx? (· == s) with | none => -1 | some i => (i : Int)
theorem fnd_none {l : List Txt} {s : Txt} (h : ∀ i, i < l.length → l.getD i [] ≠ s) : fnd l s = -1 := by
  unfold fnd
  have : l.findIdx? (· == s) = none := by
    rw [List.findIdx?_eq_none_iff]
    intro x hx
    obtain ⟨i, hi, rfl⟩ := List.getElem_of_mem hx
    have := h i hi
    rw [List.getD_eq_getElem?_getD, List.getElem?_eq_getElem hi] at this
    simpa using this
  rw [this]
theorem fnd_some {l : List Txt} {s : Txt} {k : Nat} (hk : k < l.length) (h : ∀ i, i < k → l.getD i [] ≠ s) (hb : l.getD k [] = s) : fnd l s = k := by
  unfold fnd
  have : l.findIdx? (· == s) = some k := by
    rw [List.findIdx?_eq_some_iff_getElem]
    refine ⟨hk, ?_, fun j hj => ?_⟩
    · rw [List.getD_eq_getElem?_getD, List.getElem?_eq_getElem hk] at hb; simpa using hb
    · have := h j hj
      rw [List.getD_eq_getElem?_getD, List.getElem?_eq_getElem (by omega)] at this
      simpa using this
  rw [this]
theorem fnd_cases (l : List Txt) (s : Txt) : (fnd l s = -1 ∧ s ∉ l) ∨ ∃ k : Nat, k < l.length ∧ fnd l s = k ∧ l.getD k [] = s := by
  unfold fnd
  cases hf : l.findIdx? (· == s) with
  | none =>
    refine .inl ⟨rfl, fun hs => ?_⟩
    rw [List.findIdx?_eq_none_iff] at hf
    have := hf s hs
    simp at this
  | some i =>
    obtain ⟨h1, h2, _⟩ := List.findIdx?_eq_some_iff_getElem.1 hf
    refine .inr ⟨i, h1, rfl, ?_⟩
    rw [List.getD_eq_getElem?_getD, List.getElem?_eq_getElem h1]
    simpa using h2
theorem fnd_mem {l : List Txt} {s : Txt} (h : s ∈ l) : ∃ k : Nat, k < l.length ∧ fnd l s = k ∧ l.getD k [] = s := by
  rcases fnd_cases l s with ⟨_, h'⟩ | h'
  · exact absurd h h'
  · exact h'
theorem getD_mem {l : List Txt} {k : Nat} (h : k < l.length) : l.getD k [] ∈ l := by
  rw [List.getD_eq_getElem?_getD, List.getElem?_eq_getElem h]; simp
theorem fnd_srt {l : List Txt} (h : Srt l) {k : Nat} (hk : k < l.length) : fnd l (l.getD k []) = k := by
  refine fnd_some hk (fun i hi e => ?_) rfl
  have hlt := List.pairwise_iff_getElem.1 h i k (by omega) hk hi
  rw [List.getD_eq_getElem?_getD, List.getD_eq_getElem?_getD, List.getElem?_eq_getElem (by omega), List.getElem?_eq_getElem hk] at e
  simp only [Option.getD_some] at e
  rw [e] at hlt
  exact List.lt_irrefl _ hlt
theorem srt_lt {l : List Txt} (h : Srt l) {i k : Nat} (hi : i < k) (hk : k < l.length) : l.getD i [] < l.getD k [] := by
  have hlt := List.pairwise_iff_getElem.1 h i k (by omega) hk hi
  rw [List.getD_eq_getElem?_getD, List.getD_eq_getElem?_getD, List.getElem?_eq_getElem (by omega), List.getElem?_eq_getElem hk]
  exact hlt

/-- Insertion at a place: all ahead are less, the one there is greater. -/
theorem srt_put {o : List Txt} (h : Srt o) {k : Nat} (hk : k ≤ o.length) (x : Txt) (h1 : ∀ j, j < k → o.getD j [] < x) (h2 : k < o.length → x < o.getD k []) : Srt (o.take k ++ x :: o.drop k) := by
  unfold Srt
  rw [List.pairwise_append]
  have hd : ∀ b ∈ o.drop k, x < b := by
    intro b hb
    obtain ⟨j, hj, rfl⟩ := List.getElem_of_mem hb
    rw [List.length_drop] at hj
    rw [List.getElem_drop]
    have hx := h2 (by omega)
    rcases Nat.eq_zero_or_pos j with rfl | hj0
    · rw [List.getD_eq_getElem?_getD, List.getElem?_eq_getElem (by omega)] at hx; exact hx
    · have := srt_lt h (i := k) (k := k + j) (by omega) (by omega)
      have e : o.getD (k + j) [] = o[k + j] := by rw [List.getD_eq_getElem?_getD, List.getElem?_eq_getElem (by omega)]; rfl
      rw [← e]
      exact List.lt_trans hx this
  refine ⟨List.Pairwise.sublist (List.take_sublist _ _) h, List.pairwise_cons.2 ⟨hd, List.Pairwise.sublist (List.drop_sublist _ _) h⟩, ?_⟩
  intro a ha b hb
  have hax : a < x := by
    obtain ⟨j, hj, rfl⟩ := List.getElem_of_mem ha
    rw [List.length_take] at hj
    have := h1 j (by omega)
    rw [List.getD_eq_getElem?_getD, List.getElem?_eq_getElem (by omega)] at this
    rw [List.getElem_take]; exact this
  rcases List.mem_cons.1 hb with rfl | hb
  · exact hax
  · exact List.lt_trans hax (hd b hb)
theorem mem_put {o : List Txt} {k : Nat} (x y : Txt) : y ∈ o.take k ++ x :: o.drop k ↔ y = x ∨ y ∈ o := by
  have e : y ∈ o ↔ y ∈ o.take k ∨ y ∈ o.drop k := by rw [← List.mem_append, List.take_append_drop]
  rw [List.mem_append, List.mem_cons, e]
  constructor
  · exact fun h1 => h1.elim (fun h1 => .inr (.inl h1)) fun h1 => h1.elim .inl fun h1 => .inr (.inr h1)
  · exact fun h1 => h1.elim (fun h1 => .inr (.inl h1)) fun h1 => h1.elim .inl fun h1 => .inr (.inr h1)
end Go.Proofs.YtbkchcpfnoclhaaGreat.I
