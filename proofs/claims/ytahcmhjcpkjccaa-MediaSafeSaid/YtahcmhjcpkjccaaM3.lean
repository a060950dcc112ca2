/- Media: what Get finds after Quarantine, Fetch and Expire; right lists stay right; sums. No condition. -/
import Derived.Test.YtahcmhjcpkjccaaM2
namespace Go.Proofs.Ytahcmhjcpkjccaa
open Go.RowKit
set_option linter.unusedVariables false

/-- Get is a search. -/
theorem get_find (s t : ByteArray) (zs : List Rc) : getR s t zs = ((zs.find? (pF s t)).getD t0, (zs.find? (pF s t)).isSome) := by
  rcases fidx_cases (pF s t) zs with ⟨e, hno⟩ | ⟨k, hk, e, hq, hno⟩
  · have h1 : zs.find? (pF s t) = none := List.find?_eq_none.2 (fun p hp => by rw [hno p hp]; decide)
    unfold getR
    rw [if_pos e, h1]; rfl
  · have h0 : (zs.take k).find? (pF s t) = none := List.find?_eq_none.2 (fun p hp => by rw [hno p hp]; decide)
    have h1 : zs.find? (pF s t) = some (zs.getD k t0) := by
      rw [getD_at hk] at hq ⊢
      have h2 : zs.find? (pF s t) = (zs.take k ++ zs[k] :: zs.drop (k + 1)).find? (pF s t) := by rw [← List.drop_eq_getElem_cons hk, List.take_append_drop]
      rw [h2, List.find?_append, h0, List.find?_cons_of_pos (by simpa using hq)]
      rfl
    unfold getR
    rw [if_neg (by omega), e, h1]; rfl
theorem pF_congr {s t : ByteArray} {p q : Rc} (h1 : p.sv = q.sv) (h2 : p.nm = q.nm) : pF s t p = pF s t q := by unfold pF; rw [h1, h2]
theorem pF_self (m : Rc) : pF m.sv m.nm m = true := by unfold pF; simp
theorem pF_mk (s t : ByteArray) (a b c : Int) : pF s t ⟨s, t, a, b, c⟩ = true := pF_self ⟨s, t, a, b, c⟩
theorem set_cut {zs : List Rc} {k : Nat} (m : Rc) (hk : k < zs.length) : zs.set k m = zs.take k ++ m :: zs.drop (k + 1) := by
  rw [List.set_eq_take_append_cons_drop, if_pos hk]
/-- A file that was put is found. -/
theorem put_same (m : Rc) (zs : List Rc) : (putQ (pS m) (pB m) m zs).find? (pF m.sv m.nm) = some m := by
  rcases fidx_cases (pF m.sv m.nm) zs with ⟨e, hno⟩ | ⟨k, hk, e, hq, hno⟩
  · rw [put_new e]
    unfold rputL
    have h0 : (zs.take (rK m zs)).find? (pF m.sv m.nm) = none := List.find?_eq_none.2 (fun p hp => by rw [hno p (List.mem_of_mem_take hp)]; decide)
    rw [List.find?_append, h0, List.find?_cons_of_pos (pF_self m)]; rfl
  · rw [put_old e, set_cut m hk]
    have h0 : (zs.take k).find? (pF m.sv m.nm) = none := List.find?_eq_none.2 (fun p hp => by rw [hno p hp]; decide)
    rw [List.find?_append, h0, List.find?_cons_of_pos (pF_self m)]; rfl
/-- .. and no other search is changed. -/
theorem put_else {s t : ByteArray} (m : Rc) (zs : List Rc) (h : pF s t m = false) : (putQ (pS m) (pB m) m zs).find? (pF s t) = zs.find? (pF s t) := by
  rcases fidx_cases (pF m.sv m.nm) zs with ⟨e, hno⟩ | ⟨k, hk, e, hq, hno⟩
  · rw [put_new e]
    unfold rputL
    rw [List.find?_append, List.find?_cons_of_neg (by rw [h]; decide), ← List.find?_append, List.take_append_drop]
  · rw [put_old e, set_cut m hk]
    rw [getD_at hk] at hq
    obtain ⟨n1, n2⟩ := pF_names hq
    have h2 : pF s t zs[k] = false := by rw [pF_congr n1 n2]; exact h
    have h3 : zs.find? (pF s t) = (zs.take k ++ zs[k] :: zs.drop (k + 1)).find? (pF s t) := by rw [← List.drop_eq_getElem_cons hk, List.take_append_drop]
    rw [h3, List.find?_append, List.find?_append, List.find?_cons_of_neg (by rw [h]; decide), List.find?_cons_of_neg (by rw [h2]; decide)]
theorem exp1_names (own : ByteArray) (now age : Int) (p : Rc) : (exp1 own now age p).sv = p.sv ∧ (exp1 own now age p).nm = p.nm := by
  unfold exp1; split <;> exact ⟨rfl, rfl⟩
theorem exp_find (s t own : ByteArray) (now age : Int) (zs : List Rc) : (expL own now age zs).find? (pF s t) = (zs.find? (pF s t)).map (exp1 own now age) := by
  unfold expL
  rw [List.find?_map, show pF s t ∘ exp1 own now age = pF s t from funext fun p => pF_congr (exp1_names own now age p).1 (exp1_names own now age p).2]
theorem exp1_two (own : ByteArray) (now age : Int) {p : Rc} (h : p.st = 2) : exp1 own now age p = p := by
  unfold exp1 expC; rw [h]; rfl
/-- A right list stays right when a right file is put. -/
theorem Right.put {zs : List Rc} (h : Right zs) {m : Rc} (hm : fileE m = 0) : Right (putQ (pS m) (pB m) m zs) := by
  rcases fidx_cases (pF m.sv m.nm) zs with ⟨e, hno⟩ | ⟨k, hk, e, hq, hno⟩
  · rw [put_new e]; exact h.new hm hno
  · rw [put_old e]
    refine h.set hm (fun hk' => ?_)
    rw [getD_at hk] at hq
    exact pF_names hq
theorem file_mk {s t : ByteArray} {a b c : Int} (h0 : nmOK s t = true) (h1 : wi a 1000000000000 = true) (h2 : wi b 1000000000 = true) (h3 : wi c 3 = true) : fileE ⟨s, t, a, b, c⟩ = 0 := by
  unfold fileE rgOK
  simp only
  rw [h0, h1, h2, h3]
  rfl
/-- What a search gives is within the ranges. -/
theorem find_ok {zs : List Rc} (h : Right zs) (s t : ByteArray) : wi ((zs.find? (pF s t)).getD t0).sz 1000000000000 = true ∧ wi ((zs.find? (pF s t)).getD t0).tt 1000000000 = true := by
  cases e : zs.find? (pF s t) with
  | none => exact ⟨by decide, by decide⟩
  | some p =>
    obtain ⟨⟨a, b⟩, ⟨c, d⟩, _⟩ := rg_bounds (fileE_zero (h.ok p (List.mem_of_find?_eq_some e))).2
    exact ⟨wi_in a b, wi_in c d⟩
theorem right_chk {zs : List Rc} (h : Right zs) : chk zs zs.length = 0 := chk_of_right rfl h
theorem get_1 (s t : ByteArray) (zs : List Rc) : (getR s t zs).1 = (zs.find? (pF s t)).getD t0 := by rw [get_find]
theorem get_2 (s t : ByteArray) (zs : List Rc) : (getR s t zs).2 = (zs.find? (pF s t)).isSome := by rw [get_find]
theorem Right.quar {zs : List Rc} (h : Right zs) (s t : ByteArray) : Right (quarL zs s t) := by
  unfold quarL
  split
  · rename_i hc
    refine h.put ?_
    have := find_ok h s t
    rw [← get_1] at this
    exact file_mk hc.2 this.1 this.2 (by decide)
  · exact h
/-- What is found after Quarantine. -/
theorem quar_get {zs : List Rc} (h : Right zs) (s t : ByteArray) : ((getR s t (quarL zs s t)).2 = true ∧ (getR s t (quarL zs s t)).1.st = 2) ∨ ((getR s t (quarL zs s t)).2 = false ∧ quarL zs s t = zs) := by
  by_cases hn : nmOK s t = true
  · left
    have e : quarL zs s t = putQ (pS (quarM (getR s t zs).1 s t)) (pB (quarM (getR s t zs).1 s t)) (quarM (getR s t zs).1 s t) zs := by
      unfold quarL; rw [if_pos ⟨right_chk h, hn⟩]
    have e2 : (quarL zs s t).find? (pF s t) = some (quarM (getR s t zs).1 s t) := by rw [e]; exact put_same (quarM (getR s t zs).1 s t) zs
    rw [get_1, get_2, e2]
    exact ⟨rfl, rfl⟩
  · right
    have e : quarL zs s t = zs := by unfold quarL; rw [if_neg (fun hc => hn hc.2)]
    rw [e, get_2]
    refine ⟨?_, rfl⟩
    cases e2 : zs.find? (pF s t) with
    | none => rfl
    | some p =>
      obtain ⟨n1, n2⟩ := pF_names (List.find?_some e2)
      have := (fileE_zero (h.ok p (List.mem_of_find?_eq_some e2))).1
      rw [n1, n2] at this
      exact absurd this hn
theorem fet_zero {zs : List Rc} {own s t : ByteArray} {size now : Int} (h : fetE zs own s t size now = 0) : chk zs zs.length = 0 ∧ nmOK s t = true ∧ wi size 1000000000000 = true ∧ wi now 1000000000 = true ∧ ((getR s t zs).1.st = 2 → False) := by
  unfold fetE fetE0 at h
  by_cases h1 : chk zs zs.length = 0
  · rw [if_pos h1] at h
    by_cases h2 : nmOK s t = false
    · rw [if_pos h2] at h; cases h
    · rw [if_neg h2] at h
      by_cases h3 : (wi size 1000000000000 && wi now 1000000000) = false
      · rw [if_pos h3] at h; cases h
      · rw [if_neg h3] at h
        rw [Bool.not_eq_false, Bool.and_eq_true] at h3
        split at h
        · cases h
        · by_cases h5 : (getR s t zs).1.st = 2
          · rw [if_pos h5] at h; cases h
          · exact ⟨h1, by simpa using h2, h3.1, h3.2, h5⟩
  · rw [if_neg h1] at h; exact absurd h h1
theorem fet_L {zs : List Rc} {own s t : ByteArray} {size now : Int} (h : fetE zs own s t size now = 0) : fetL zs own s t size now = putQ (pS (fetM (getR s t zs).1 s t size now)) (pB (fetM (getR s t zs).1 s t size now)) (fetM (getR s t zs).1 s t size now) zs := by
  unfold fetL; rw [if_pos h]
theorem Right.fet {zs : List Rc} (h : Right zs) {own s t : ByteArray} {size now : Int} (he : fetE zs own s t size now = 0) : Right (fetL zs own s t size now) := by
  rw [fet_L he]
  obtain ⟨_, h2, h3, h4, _⟩ := fet_zero he
  have := find_ok h s t
  rw [← get_1] at this
  refine h.put (file_mk h2 ?_ h4 (by decide))
  split
  · exact this.1
  · exact h3
theorem fet_get {zs : List Rc} {own s t : ByteArray} {size now : Int} (he : fetE zs own s t size now = 0) : (getR s t (fetL zs own s t size now)).2 = true ∧ (getR s t (fetL zs own s t size now)).1.st = 1 ∧ (getR s t (fetL zs own s t size now)).1.tt = now := by
  have e2 : (fetL zs own s t size now).find? (pF s t) = some (fetM (getR s t zs).1 s t size now) := by rw [fet_L he]; exact put_same (fetM (getR s t zs).1 s t size now) zs
  rw [get_1, get_2, e2]
  exact ⟨rfl, rfl, rfl⟩
/-- What is held back is answered so. -/
theorem fet_two {zs : List Rc} (h : Right zs) {own s t : ByteArray} {size now : Int} (hg : (getR s t zs).2 = true) (h2 : (getR s t zs).1.st = 2) : fetE zs own s t size now = 27 ∨ fetE zs own s t size now = 2 := by
  have hn : nmOK s t = true := by
    rw [get_2] at hg
    cases e2 : zs.find? (pF s t) with
    | none => rw [e2] at hg; cases hg
    | some p =>
      obtain ⟨n1, n2⟩ := pF_names (List.find?_some e2)
      have := (fileE_zero (h.ok p (List.mem_of_find?_eq_some e2))).1
      rw [n1, n2] at this
      exact this
  unfold fetE fetE0
  rw [if_pos (right_chk h), hn, if_neg (by decide), hg, h2]
  split
  · exact .inr rfl
  · left; rw [if_neg (fun hc => by cases hc.1)]; rfl
theorem pF_not {s t s' t' : ByteArray} (h : ¬ (s' = s ∧ t' = t)) (a b c : Int) : pF s t ⟨s', t', a, b, c⟩ = false := by
  cases e : pF s t ⟨s', t', a, b, c⟩ with
  | false => rfl
  | true => exact absurd (pF_names e) h
/-- A file that is held back stays, whatever is fetched. -/
theorem fet_stay {zs : List Rc} (h : Right zs) {own s t s' t' : ByteArray} {size now : Int} (hg : (getR s t zs).2 = true) (h2 : (getR s t zs).1.st = 2) (he : fetE zs own s' t' size now = 0) : getR s t (fetL zs own s' t' size now) = getR s t zs := by
  have hne : ¬ (s' = s ∧ t' = t) := by
    rintro ⟨rfl, rfl⟩
    rcases fet_two h hg h2 (own := own) (size := size) (now := now) with e | e <;> rw [e] at he <;> cases he
  rw [get_find, get_find s t zs, fet_L he, put_else (fetM (getR s' t' zs).1 s' t' size now) zs (pF_not hne _ _ _)]
theorem exp_stay {zs : List Rc} {s t : ByteArray} (own : ByteArray) (now age : Int) (hg : (getR s t zs).2 = true) (h2 : (getR s t zs).1.st = 2) : getR s t (expL own now age zs) = getR s t zs := by
  rw [get_2] at hg
  rw [get_1] at h2
  rw [get_find, get_find s t zs, exp_find]
  cases e : zs.find? (pF s t) with
  | none => rfl
  | some p =>
    rw [e] at h2
    have : exp1 own now age p = p := exp1_two own now age h2
    rw [Option.map_some, this]
theorem exp_len (own : ByteArray) (now age : Int) (zs : List Rc) : (expL own now age zs).length = zs.length := by unfold expL; rw [List.length_map]
theorem put_len (m : Rc) (zs : List Rc) : (putQ (pS m) (pB m) m zs).length ≤ zs.length + 1 := by
  rcases fidx_cases (pF m.sv m.nm) zs with ⟨e, hno⟩ | ⟨k, hk, e, hq, hno⟩
  · rw [put_new e]
    unfold rputL
    rw [List.length_append, List.length_cons, List.length_take, List.length_drop]; omega
  · rw [put_old e, List.length_set]; omega
theorem quar_len (zs : List Rc) (s t : ByteArray) : (quarL zs s t).length ≤ zs.length + 1 := by
  unfold quarL
  split
  · exact put_len _ _
  · omega
theorem fet_len (zs : List Rc) (own s t : ByteArray) (size now : Int) : (fetL zs own s t size now).length ≤ zs.length + 1 := by
  unfold fetL
  split
  · exact put_len _ _
  · exact Nat.zero_le _
theorem sumT_cons (p : Rc) (zs : List Rc) : sumT (p :: zs) = (if p.st = 1 then p.sz else 0) + sumT zs := by unfold sumT; rw [List.map_cons, List.sum_cons]
/-- The sum does not grow. -/
theorem exp_sum (own : ByteArray) (now age : Int) : ∀ (zs : List Rc), (∀ p ∈ zs, 0 ≤ p.sz) → sumT (expL own now age zs) ≤ sumT zs
  | [], _ => Int.le_refl _
  | p :: zs, h => by
    have h1 := exp_sum own now age zs (fun q hq => h q (List.mem_cons_of_mem _ hq))
    have h0 := h p List.mem_cons_self
    show sumT (exp1 own now age p :: expL own now age zs) ≤ _
    rw [sumT_cons, sumT_cons]
    have h2 : (if (exp1 own now age p).st = 1 then (exp1 own now age p).sz else 0) ≤ (if p.st = 1 then p.sz else 0) := by
      unfold exp1
      split
      · simp only
        split <;> split <;> omega
      · exact Int.le_refl _
    omega
theorem exp_tot {zs : List Rc} (h : Right zs) (own : ByteArray) (now age : Int) : totR (expL own now age zs) (expL own now age zs).length ≤ totR zs zs.length := by
  unfold totR
  rw [if_pos (right_chk h), if_pos (right_chk (h.exp own now age))]
  exact exp_sum own now age zs (fun p hp => (rg_bounds (fileE_zero (h.ok p hp)).2).1.1)
end Go.Proofs.Ytahcmhjcpkjccaa
