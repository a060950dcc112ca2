/- Plain mathematics of numbers: limits, digits, increasing lists. No program. -/
import Derived.Lib.SlicesCompact
namespace Go.Proofs.Ytefajhfahnhcgaa.Q.M
set_option linter.unusedVariables false

/-! Limits -/
def clip (n lo hi : Int) : Int := if hi < lo ∨ n < lo then lo else if hi < n then hi else n
def bnd (n : Int) : Int := clip n (-1000000000000) 1000000000000
def add (a b : Int) : Int := bnd (bnd a + bnd b)
theorem bnd_bd (n : Int) : -1000000000000 ≤ bnd n ∧ bnd n ≤ 1000000000000 := by
  unfold bnd clip; split <;> (try split) <;> omega
theorem bnd_id {n : Int} (h1 : -1000000000000 ≤ n) (h2 : n ≤ 1000000000000) : bnd n = n := by
  unfold bnd clip; rw [if_neg (by omega), if_neg (by omega)]
theorem add_comm (a b : Int) : add a b = add b a := by unfold add; rw [Int.add_comm]

theorem rev_ind {P : List Int → Prop} (h0 : P []) (h1 : ∀ l c, P l → P (l ++ [c])) (l : List Int) : P l := by
  rw [← List.reverse_reverse l]
  induction l.reverse with
  | nil => exact h0
  | cons c t ih => rw [List.reverse_cons]; exact h1 _ _ ih

/-! Digits -/
/-- The decimal digits of a number, as bytes. -/
def dgs (n : Nat) : List Int := if h : n < 10 then [48 + (n : Int)] else dgs (n / 10) ++ [48 + ((n % 10 : Nat) : Int)]
termination_by n
decreasing_by omega
theorem dgs_small {n : Nat} (h : n < 10) : dgs n = [48 + (n : Int)] := by rw [dgs]; simp [h]
theorem dgs_big {n : Nat} (h : 10 ≤ n) : dgs n = dgs (n / 10) ++ [48 + ((n % 10 : Nat) : Int)] := by
  rw [dgs]; rw [dif_neg (by omega)]
theorem dgs_pos (n : Nat) : 1 ≤ (dgs n).length := by
  by_cases h : n < 10
  · rw [dgs_small h]; simp
  · rw [dgs_big (by omega)]; simp
theorem dgs_len_small {n : Nat} (h : n < 10) : (dgs n).length = 1 := by rw [dgs_small h]; rfl
theorem dgs_len_big {n : Nat} (h : 10 ≤ n) : (dgs n).length = (dgs (n / 10)).length + 1 := by rw [dgs_big h]; simp
def isD (c : Int) : Bool := decide (48 ≤ c ∧ c ≤ 57)
theorem dgs_all (n : Nat) : ∀ c ∈ dgs n, 48 ≤ c ∧ c ≤ 57 := by
  induction n using Nat.strongRecOn with
  | _ n ih =>
    by_cases h : n < 10
    · rw [dgs_small h]; intro c hc; rw [List.mem_singleton] at hc; omega
    · rw [dgs_big (by omega)]
      intro c hc
      rcases List.mem_append.1 hc with hc | hc
      · exact ih (n / 10) (by omega) c hc
      · rw [List.mem_singleton] at hc; omega
theorem dgs_len_le (k : Nat) : ∀ n : Nat, n < 10 ^ (k + 1) → (dgs n).length ≤ k + 1 := by
  induction k with
  | zero => intro n h; rw [dgs_len_small (by simpa using h)]; omega
  | succ k ih =>
    intro n h
    by_cases hs : n < 10
    · rw [dgs_len_small hs]; omega
    · rw [dgs_len_big (by omega)]
      have := ih (n / 10) (by rw [Nat.div_lt_iff_lt_mul (by omega)]; rw [Nat.pow_succ] at h; exact h)
      omega
/-- The value of digits. -/
def val (l : List Int) : Int := l.foldl (fun a c => 10 * a + (c - 48)) 0
theorem val_nil : val [] = 0 := rfl
theorem val_snoc (l : List Int) (c : Int) : val (l ++ [c]) = 10 * val l + (c - 48) := by unfold val; rw [List.foldl_append]; rfl
theorem val_dgs (n : Nat) : val (dgs n) = n := by
  induction n using Nat.strongRecOn with
  | _ n ih =>
    by_cases h : n < 10
    · rw [dgs_small h]; unfold val; simp; omega
    · rw [dgs_big (by omega), val_snoc, ih (n / 10) (by omega)]; omega
theorem val_bd (l : List Int) (h : ∀ c ∈ l, 48 ≤ c ∧ c ≤ 57) : 0 ≤ val l ∧ val l < 10 ^ l.length := by
  induction l using rev_ind with
  | h0 => decide
  | h1 l c ih =>
    obtain ⟨h1, h2⟩ := ih fun c hc => h c (List.mem_append_left _ hc)
    have := h c (by simp)
    rw [val_snoc, List.length_append, List.length_singleton, Int.pow_succ]
    generalize (10 : Int) ^ l.length = p at h2 ⊢
    omega
theorem val_lt13 (l : List Int) (h : ∀ c ∈ l, 48 ≤ c ∧ c ≤ 57) (hl : l.length ≤ 13) : 0 ≤ val l ∧ val l < 10000000000000 := by
  obtain ⟨h1, h2⟩ := val_bd l h
  refine ⟨h1, Int.lt_of_lt_of_le h2 ?_⟩
  have : (10 : Int) ^ l.length ≤ 10 ^ 13 := by
    have := Nat.pow_le_pow_right (n := 10) (by omega) hl
    exact_mod_cast this
  exact this
/-- Digits are those of a number, unless there is a zero ahead of others. -/
def lead (l : List Int) : Prop := l.length = 1 ∨ (1 < l.length ∧ l.getD 0 0 ≠ 48)
theorem dgs_lead (n : Nat) : lead (dgs n) := by
  induction n using Nat.strongRecOn with
  | _ n ih =>
    by_cases h : n < 10
    · exact .inl (dgs_len_small h)
    · right
      have h10 : 10 ≤ n := by omega
      rw [dgs_len_big h10, dgs_big h10]
      have hp := dgs_pos (n / 10)
      refine ⟨by omega, ?_⟩
      rw [List.getD_eq_getElem?_getD, List.getElem?_append_left (by omega), ← List.getD_eq_getElem?_getD]
      rcases ih (n / 10) (by omega) with h1 | ⟨_, h1⟩
      · by_cases hs : n / 10 < 10
        · rw [dgs_small hs]
          simp; omega
        · rw [dgs_len_big (by omega)] at h1
          have := dgs_pos (n / 10 / 10)
          omega
      · exact h1
theorem dgs_val (l : List Int) (h : ∀ c ∈ l, 48 ≤ c ∧ c ≤ 57) (hl : lead l) : dgs (val l).toNat = l := by
  induction l using rev_ind with
  | h0 => rcases hl with h | ⟨h, _⟩ <;> simp at h
  | h1 l c ih =>
    have hc := h c (by simp)
    have hv := (val_bd l fun c hc => h c (List.mem_append_left _ hc)).1
    rw [val_snoc]
    cases l with
    | nil => rw [val_nil, dgs_small (by omega)]; simp; omega
    | cons d t =>
      have hd := h d (by simp)
      have hd0 : d ≠ 48 := by
        rcases hl with h1 | ⟨_, h1⟩
        · simp at h1
        · simpa using h1
      have hld : lead (d :: t) := by
        cases t with
        | nil => exact .inl rfl
        | cons e t => exact .inr ⟨by simp, by simpa using hd0⟩
      have ih' := ih (fun c hc => h c (List.mem_append_left _ hc)) hld
      have hpos : 1 ≤ val (d :: t) := by
        have e := val_dgs (val (d :: t)).toNat
        rw [ih'] at e
        rcases Int.lt_or_le (val (d :: t)) 1 with h0 | h0
        · have : val (d :: t) = 0 := by omega
          rw [this, dgs_small (by decide)] at ih'
          simp at ih'
          exact absurd ih'.1.symm hd0
        · exact h0
      rw [dgs_big (by omega), show (10 * val (d :: t) + (c - 48)).toNat / 10 = (val (d :: t)).toNat by omega, ih']
      congr 2
      omega
/-- The text of a number. -/
def txt (n : Int) : List Int := if n < 0 then 45 :: dgs n.natAbs else dgs n.natAbs
theorem dgs_inj {m n : Nat} (h : dgs m = dgs n) : m = n := by
  have := val_dgs m; rw [h, val_dgs] at this; omega
/-- The digits at the beginning of a text, and whether there is a sign. -/
def body (s : List Int) : List Int := if s.getD 0 0 = 45 then s.drop 1 else s
/-- What digits stand for. -/
def dv (l : List Int) : Option Int := if l.length = 0 ∨ 13 < l.length ∨ (l.getD 0 0 = 48 ∧ 1 < l.length) ∨ l.all isD = false then none else some (val l)
/-- What a text stands for. -/
def prs (s : List Int) : Option Int :=
  match dv (body s) with
  | none => none
  | some v => if s.getD 0 0 = 45 then (if v = 0 ∨ 1000000000000 < v then none else some (-v)) else if 1000000000000 < v then none else some v
theorem all_isD {l : List Int} (h : l.all isD = true) : ∀ c ∈ l, 48 ≤ c ∧ c ≤ 57 := fun c hc => by
  have := List.all_eq_true.1 h c hc
  simpa [isD] using this
theorem isD_all {l : List Int} (h : ∀ c ∈ l, 48 ≤ c ∧ c ≤ 57) : l.all isD = true := List.all_eq_true.2 fun c hc => by simpa [isD] using h c hc
theorem dv_some {l : List Int} {v : Int} (h : dv l = some v) : 1 ≤ l.length ∧ l.length ≤ 13 ∧ lead l ∧ (∀ c ∈ l, 48 ≤ c ∧ c ≤ 57) ∧ v = val l := by
  unfold dv at h
  split at h
  · cases h
  · rename_i hn
    simp only [not_or, Bool.not_eq_false] at hn
    obtain ⟨h1, h2, h3, h4⟩ := hn
    injection h with h
    refine ⟨by omega, by omega, ?_, all_isD h4, h.symm⟩
    by_cases h5 : l.length = 1
    · exact .inl h5
    · exact .inr ⟨by omega, fun e => h3 ⟨e, by omega⟩⟩
theorem dv_of {l : List Int} (h1 : 1 ≤ l.length) (h2 : l.length ≤ 13) (h3 : lead l) (h4 : ∀ c ∈ l, 48 ≤ c ∧ c ≤ 57) : dv l = some (val l) := by
  unfold dv
  rw [if_neg]
  simp only [not_or, Bool.not_eq_false]
  refine ⟨by omega, by omega, ?_, isD_all h4⟩
  rintro ⟨e, h5⟩
  rcases h3 with h3 | ⟨_, h3⟩
  · omega
  · exact h3 e
theorem dgs_nosign (n : Nat) : (dgs n).getD 0 0 ≠ 45 := by
  have hp := dgs_pos n
  have := dgs_all n ((dgs n).getD 0 0) (by
    rw [List.getD_eq_getElem?_getD, List.getElem?_eq_getElem (by omega)]; simp)
  omega
theorem dgs_le13 {n : Nat} (h : n ≤ 1000000000000) : (dgs n).length ≤ 13 := dgs_len_le 12 n (by omega)
theorem prs_txt {n : Int} (h1 : -1000000000000 ≤ n) (h2 : n ≤ 1000000000000) : prs (txt n) = some n := by
  have hd := dv_of (dgs_pos n.natAbs) (dgs_le13 (by omega)) (dgs_lead n.natAbs) (dgs_all n.natAbs)
  rw [val_dgs] at hd
  unfold prs txt body
  by_cases h : n < 0
  · simp only [if_pos h, List.getD_cons_zero, if_true, List.drop_succ_cons, List.drop_zero, hd]
    rw [if_neg (by omega)]
    congr 1; omega
  · simp only [if_neg h, if_neg (dgs_nosign n.natAbs), hd]
    rw [if_neg (by omega)]
    congr 1; omega
theorem txt_prs {s : List Int} {n : Int} (h : prs s = some n) : txt n = s ∧ -1000000000000 ≤ n ∧ n ≤ 1000000000000 := by
  unfold prs at h
  cases hd : dv (body s) with
  | none => rw [hd] at h; cases h
  | some v =>
    rw [hd] at h
    obtain ⟨l1, l2, l3, l4, rfl⟩ := dv_some hd
    have hv := (val_bd _ l4).1
    have hdv := dgs_val _ l4 l3
    dsimp only at h
    by_cases hs : s.getD 0 0 = 45
    · rw [if_pos hs] at h
      split at h
      · cases h
      · rename_i hn
        injection h with h
        subst h
        have hb : body s = s.drop 1 := by unfold body; rw [if_pos hs]
        refine ⟨?_, by omega, by omega⟩
        unfold txt
        rw [if_pos (by omega), show (-val (body s)).natAbs = (val (body s)).toNat by omega, hdv, hb]
        cases s with
        | nil => simp at hs
        | cons c t => simp at hs; simp [hs]
    · rw [if_neg hs] at h
      split at h
      · cases h
      · rename_i hn
        injection h with h
        subst h
        have hb : body s = s := by unfold body; rw [if_neg hs]
        refine ⟨?_, by omega, by omega⟩
        unfold txt
        rw [if_neg (by omega), show (val (body s)).natAbs = (val (body s)).toNat by omega, hdv, hb]
/-- The specification by the text: what is read is the number whose text it is. -/
theorem prs_none {s : List Int} (h : prs s = none) (n : Int) (h1 : -1000000000000 ≤ n) (h2 : n ≤ 1000000000000) : txt n ≠ s := fun e => by
  rw [← e, prs_txt h1 h2] at h; cases h

/-! Increasing lists -/
def Srt (o : List Int) : Prop := o.Pairwise (· < ·)
theorem srt_nodup {o : List Int} (h : Srt o) : o.Nodup := h.imp fun {a b} hab e => by omega
theorem srt_unique {a b : List Int} (ha : Srt a) (hb : Srt b) (h : ∀ x, x ∈ a ↔ x ∈ b) : a = b := by
  refine List.Perm.eq_of_pairwise (le := (· < ·)) (fun x y _ _ h1 h2 => by omega) ha hb ?_
  exact (List.perm_ext_iff_of_nodup (srt_nodup ha) (srt_nodup hb)).2 h
theorem srt_lt {l : List Int} (h : Srt l) {i k : Nat} (hi : i < k) (hk : k < l.length) : l.getD i 0 < l.getD k 0 := by
  have hlt := List.pairwise_iff_getElem.1 h i k (by omega) hk hi
  rw [List.getD_eq_getElem?_getD, List.getD_eq_getElem?_getD, List.getElem?_eq_getElem (by omega), List.getElem?_eq_getElem hk]
  exact hlt
theorem getD_mem {l : List Int} {k : Nat} (h : k < l.length) : l.getD k 0 ∈ l := by
  rw [List.getD_eq_getElem?_getD, List.getElem?_eq_getElem h]; simp
theorem mem_getD {l : List Int} {x : Int} (h : x ∈ l) : ∃ k, k < l.length ∧ l.getD k 0 = x := by
  obtain ⟨k, hk, e⟩ := List.getElem_of_mem h
  exact ⟨k, hk, by rw [List.getD_eq_getElem?_getD, List.getElem?_eq_getElem hk]; exact e⟩
/-- The sort, then the compaction. -/
def srtd (l : List Int) : List Int := l.mergeSort fun x y => decide (x ≤ y)
def st (l : List Int) : List Int := Lib.compact (srtd l)
theorem srtd_le (l : List Int) : (srtd l).Pairwise (· ≤ ·) := by
  have h1 : (srtd l).Pairwise fun a b => decide (a ≤ b) = true := List.pairwise_mergeSort
    (fun a b c h1 h2 => by simp only [decide_eq_true_iff] at *; omega) (fun a b => by simp only [Bool.or_eq_true, decide_eq_true_iff]; omega) _
  exact h1.imp fun h => by simpa using h
theorem mem_srtd (l : List Int) (x : Int) : x ∈ srtd l ↔ x ∈ l := (List.mergeSort_perm _ _).mem_iff
theorem len_srtd (l : List Int) : (srtd l).length = l.length := (List.mergeSort_perm _ _).length_eq
theorem get_bang {l : List Int} {j : Nat} (h : j < l.length) : l.toArray[j]! = l.getD j 0 := by
  rw [List.getD_eq_getElem?_getD, List.getElem?_eq_getElem h]
  simp [h]
/-- Of a list in order, what is kept increases, and has all elements. -/
theorem upto_spec (l : List Int) (h : l.Pairwise (· ≤ ·)) : ∀ m, m ≤ l.length → Srt (Lib.compactUpTo l.toArray m) ∧ (∀ x, x ∈ Lib.compactUpTo l.toArray m ↔ ∃ j, j < m ∧ l.getD j 0 = x) := by
  have le_of : ∀ i j, i ≤ j → j < l.length → l.getD i 0 ≤ l.getD j 0 := by
    intro i j hij hj
    rcases Nat.lt_or_ge i j with h1 | h1
    · have := List.pairwise_iff_getElem.1 h i j (by omega) hj h1
      rw [List.getD_eq_getElem?_getD, List.getD_eq_getElem?_getD, List.getElem?_eq_getElem (by omega), List.getElem?_eq_getElem hj]
      exact this
    · have : i = j := by omega
      rw [this]; exact Int.le_refl _
  intro m
  induction m with
  | zero => exact fun _ => ⟨List.Pairwise.nil, fun x => ⟨fun h => by simp [Lib.compactUpTo] at h, fun ⟨j, hj, _⟩ => by omega⟩⟩
  | succ m ih =>
    intro hm
    obtain ⟨h1, h2⟩ := ih (by omega)
    have hb := get_bang (l := l) (j := m) (by omega)
    rw [Lib.compactUpTo_succ]
    by_cases hk : Lib.keeps l.toArray m = true
    · rw [if_pos hk]
      refine ⟨?_, fun x => ?_⟩
      · unfold Srt
        rw [List.pairwise_append]
        refine ⟨h1, List.pairwise_singleton _ _, fun a ha b hbm => ?_⟩
        rw [List.mem_singleton] at hbm
        obtain ⟨j, hj, rfl⟩ := (h2 a).1 ha
        rw [hbm, hb]
        simp only [Lib.keeps, decide_eq_true_iff] at hk
        rcases hk with hk | hk
        · omega
        · rw [hb, get_bang (by omega)] at hk
          have e1 := le_of j (m - 1) (by omega) (by omega)
          have e2 := le_of (m - 1) m (by omega) (by omega)
          omega
      · rw [List.mem_append, h2, List.mem_singleton, hb]
        constructor
        · rintro (⟨j, hj, e⟩ | e)
          · exact ⟨j, by omega, e⟩
          · exact ⟨m, by omega, e.symm⟩
        · rintro ⟨j, hj, e⟩
          rcases Nat.lt_or_ge j m with h3 | h3
          · exact .inl ⟨j, h3, e⟩
          · have : j = m := by omega
            subst this; exact .inr e.symm
    · rw [if_neg hk, List.append_nil]
      refine ⟨h1, fun x => ?_⟩
      rw [h2]
      simp only [Lib.keeps, decide_eq_true_iff, not_or, ne_eq, Decidable.not_not] at hk
      obtain ⟨hm0, hk⟩ := hk
      rw [hb, get_bang (by omega)] at hk
      constructor
      · rintro ⟨j, hj, e⟩
        exact ⟨j, by omega, e⟩
      · rintro ⟨j, hj, e⟩
        rcases Nat.lt_or_ge j m with h3 | h3
        · exact ⟨j, h3, e⟩
        · have : j = m := by omega
          subst this
          exact ⟨j - 1, by omega, by rw [← hk]; exact e⟩
theorem srt_st (l : List Int) : Srt (st l) := by
  have := (upto_spec (srtd l) (srtd_le l) (srtd l).length (Nat.le_refl _)).1
  unfold st Lib.compact; exact this
theorem mem_st (l : List Int) (x : Int) : x ∈ st l ↔ x ∈ l := by
  have := (upto_spec (srtd l) (srtd_le l) (srtd l).length (Nat.le_refl _)).2 x
  unfold st Lib.compact
  rw [this, ← mem_srtd]
  exact ⟨fun ⟨j, hj, e⟩ => e ▸ getD_mem hj, mem_getD⟩
theorem len_st (l : List Int) : (st l).length ≤ l.length := by
  unfold st Lib.compact Lib.compactUpTo
  rw [← len_srtd l, List.length_map]
  exact Nat.le_trans (List.length_filter_le _ _) (by simp)
theorem st_eq {o l : List Int} (h : Srt o) (hm : ∀ x, x ∈ o ↔ x ∈ l) : o = st l := srt_unique h (srt_st l) fun x => by rw [hm, mem_st]
theorem st_congr {a b : List Int} (h : ∀ x, x ∈ a ↔ x ∈ b) : st a = st b := st_eq (srt_st a) fun x => by rw [mem_st, h]
/-- A number put into its place. -/
def les (acc : List Int) (x : Int) : Nat := acc.findIdx fun y => !decide (y < x)
theorem les_le (acc : List Int) (x : Int) : les acc x ≤ acc.length := List.findIdx_le_length
theorem les_lt {acc : List Int} {x : Int} {j : Nat} (h : j < les acc x) : acc.getD j 0 < x := by
  have hl := les_le acc x
  have := List.not_of_lt_findIdx (p := fun y => !decide (y < x)) h
  rw [List.getD_eq_getElem?_getD, List.getElem?_eq_getElem (by omega)]
  simpa using this
theorem les_at {acc : List Int} {x : Int} (h : les acc x < acc.length) : ¬ acc.getD (les acc x) 0 < x := by
  have := List.findIdx_getElem (p := fun y => !decide (y < x)) (w := h)
  rw [List.getD_eq_getElem?_getD, List.getElem?_eq_getElem h]
  rw [Bool.not_eq_true', decide_eq_false_iff_not] at this
  exact this
theorem les_is {acc : List Int} {x : Int} {k : Nat} (hk : k ≤ acc.length) (h1 : ∀ j, j < k → acc.getD j 0 < x) (h2 : k < acc.length → ¬ acc.getD k 0 < x) : les acc x = k := by
  rcases Nat.lt_trichotomy (les acc x) k with h | h | h
  · exact absurd (h1 _ h) (les_at (by omega))
  · exact h
  · have := les_le acc x
    exact absurd (les_lt h) (h2 (by omega))
theorem srt_put {o : List Int} (h : Srt o) {k : Nat} (hk : k ≤ o.length) (x : Int) (h1 : ∀ j, j < k → o.getD j 0 < x) (h2 : k < o.length → x < o.getD k 0) : Srt (o.take k ++ x :: o.drop k) := by
  unfold Srt
  rw [List.pairwise_append]
  have hd : ∀ b ∈ o.drop k, x < b := by
    intro b hb
    obtain ⟨j, hj, rfl⟩ := List.getElem_of_mem hb
    rw [List.length_drop] at hj
    rw [List.getElem_drop]
    have hx := h2 (by omega)
    rcases Nat.eq_zero_or_pos j with rfl | hj0
    · rw [List.getD_eq_getElem?_getD, List.getElem?_eq_getElem (by omega)] at hx; exact hx
    · have := srt_lt h (i := k) (k := k + j) (by omega) (by omega)
      have e : o.getD (k + j) 0 = o[k + j] := by rw [List.getD_eq_getElem?_getD, List.getElem?_eq_getElem (by omega)]; rfl
      rw [← e]
      omega
  refine ⟨List.Pairwise.sublist (List.take_sublist _ _) h, List.pairwise_cons.2 ⟨hd, List.Pairwise.sublist (List.drop_sublist _ _) h⟩, ?_⟩
  intro a ha b hb
  have hax : a < x := by
    obtain ⟨j, hj, rfl⟩ := List.getElem_of_mem ha
    rw [List.length_take] at hj
    have := h1 j (by omega)
    rw [List.getD_eq_getElem?_getD, List.getElem?_eq_getElem (by omega)] at this
    rw [List.getElem_take]; exact this
  rcases List.mem_cons.1 hb with rfl | hb
  · exact hax
  · have := hd b hb; omega
theorem mem_at {o : List Int} {k : Nat} (x y : Int) : y ∈ o.take k ++ x :: o.drop k ↔ y = x ∨ y ∈ o := by
  have e : y ∈ o ↔ y ∈ o.take k ∨ y ∈ o.drop k := by rw [← List.mem_append, List.take_append_drop]
  rw [List.mem_append, List.mem_cons, e]
  constructor
  · exact fun h1 => h1.elim (fun h1 => .inr (.inl h1)) fun h1 => h1.elim .inl fun h1 => .inr (.inr h1)
  · exact fun h1 => h1.elim (fun h1 => .inr (.inl h1)) fun h1 => h1.elim .inl fun h1 => .inr (.inr h1)
def put (l : List Int) (x : Int) : List Int := if l.contains x then l else l.take (les l x) ++ x :: l.drop (les l x)
theorem mem_put (l : List Int) (x y : Int) : y ∈ put l x ↔ y = x ∨ y ∈ l := by
  unfold put
  split
  · rename_i h
    rw [List.contains_iff_mem] at h
    exact ⟨.inr, fun h1 => h1.elim (fun e => e ▸ h) id⟩
  · exact mem_at x y
theorem len_put (l : List Int) (x : Int) : (put l x).length ≤ l.length + 1 := by
  unfold put
  split
  · omega
  · have := les_le l x
    rw [List.length_append, List.length_cons, List.length_take, List.length_drop]; omega
theorem srt_put' {l : List Int} (h : Srt l) (x : Int) : Srt (put l x) := by
  unfold put
  split
  · exact h
  · rename_i hc
    refine srt_put h (les_le l x) x (fun j hj => les_lt hj) fun hk => ?_
    have h1 := les_at hk
    have h2 : l.getD (les l x) 0 ≠ x := fun e => hc (by rw [List.contains_iff_mem, ← e]; exact getD_mem hk)
    omega
/-- What is put in one by one. -/
def puts (acc l : List Int) : List Int := l.foldl put acc
theorem puts_nil (acc : List Int) : puts acc [] = acc := rfl
theorem puts_snoc (acc l : List Int) (x : Int) : puts acc (l ++ [x]) = put (puts acc l) x := by unfold puts; rw [List.foldl_append]; rfl
theorem puts_spec (acc l : List Int) (h : Srt acc) : Srt (puts acc l) ∧ (∀ x, x ∈ puts acc l ↔ x ∈ acc ∨ x ∈ l) ∧ (puts acc l).length ≤ acc.length + l.length := by
  induction l using rev_ind with
  | h0 => exact ⟨h, fun x => by simp [puts], by simp [puts]⟩
  | h1 l x ih =>
    obtain ⟨h1, h2, h3⟩ := ih
    rw [puts_snoc]
    refine ⟨srt_put' h1 x, fun y => ?_, ?_⟩
    · rw [mem_put, h2, List.mem_append, List.mem_singleton]
      constructor
      · rintro (e | e | e)
        · exact .inr (.inr e)
        · exact .inl e
        · exact .inr (.inl e)
      · rintro (e | e | e)
        · exact .inr (.inl e)
        · exact .inr (.inr e)
        · exact .inl e
    · have := len_put (puts acc l) x
      rw [List.length_append, List.length_singleton]; omega
theorem puts_st (l : List Int) : puts [] l = st l := by
  obtain ⟨h1, h2, _⟩ := puts_spec [] l List.Pairwise.nil
  exact st_eq h1 fun x => by rw [h2]; simp
theorem puts_union (a b : List Int) : puts (st a) b = st (a ++ b) := by
  obtain ⟨h1, h2, _⟩ := puts_spec (st a) b (srt_st a)
  exact st_eq h1 fun x => by rw [h2, mem_st, List.mem_append]
/-- The elements of an increasing list that another one lacks. -/
def mns (a b : List Int) : List Int := (st a).filter fun x => !(b.contains x)
theorem mns_snoc (l : List Int) (p : Int → Bool) (k : Nat) (h : k < l.length) : (l.take (k + 1)).filter p = (l.take k).filter p ++ if p (l.getD k 0) then [l.getD k 0] else [] := by
  rw [List.take_succ_eq_append_getElem h, List.filter_append, List.getD_eq_getElem?_getD, List.getElem?_eq_getElem h]
  by_cases hp : p l[k] <;> simp [hp]
theorem contains_st (l : List Int) (x : Int) : (st l).contains x = l.contains x := by
  rw [Bool.eq_iff_iff, List.contains_iff_mem, List.contains_iff_mem, mem_st]
theorem mem_mns (a b : List Int) (x : Int) : x ∈ mns a b ↔ x ∈ a ∧ x ∉ b := by
  unfold mns
  rw [List.mem_filter, mem_st, Bool.not_eq_true', ← Bool.not_eq_true, List.contains_iff_mem]
theorem len_mns (a b : List Int) : (mns a b).length ≤ a.length := Nat.le_trans (List.length_filter_le _ _) (len_st a)
theorem parts (a b : List Int) : st (mns a b ++ b) = st (a ++ b) := st_congr fun x => by
  rw [List.mem_append, List.mem_append, mem_mns]
  by_cases h : x ∈ b
  · simp [h]
  · simp [h]
end Go.Proofs.Ytefajhfahnhcgaa.Q.M
