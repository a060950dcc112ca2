/- Media: the program's lists are the reference's. No condition. -/
import Derived.Test.YtahcmhjcpkjccaaC14
namespace Go.Proofs.Ytahcmhjcpkjccaa
open Go.RowKit
set_option linter.unusedVariables false

theorem cmpS_zero {a b : ByteArray} : cmpS a b = 0 ↔ a.toList = b.toList := by
  unfold cmpS
  rw [bytesLess_eq]
  constructor
  · intro h
    by_cases h1 : a.toList < b.toList
    · simp [h1] at h
    · by_cases h2 : a.toList = b.toList
      · exact h2
      · simp [h1, h2] at h
  · intro h
    have h1 : ¬ b.toList < b.toList := List.lt_irrefl _
    rw [h]
    simp [h1]
theorem pS_eq (m p : Rc) : pS m p = pF m.sv m.nm p := by
  rw [Bool.eq_iff_iff]
  unfold pS pF cmpR orI
  rw [beq_iff_eq, Bool.and_eq_true, beq_iff_eq, beq_iff_eq]
  constructor
  · intro h
    by_cases h1 : cmpS p.sv m.sv = 0
    · rw [if_pos h1] at h
      exact ⟨cmpS_zero.1 h1, cmpS_zero.1 h⟩
    · rw [if_neg h1] at h
      exact absurd h h1
  · rintro ⟨h1, h2⟩
    rw [if_pos (cmpS_zero.2 h1)]
    exact cmpS_zero.2 h2
/-- Where no file has the server and name, behind is: not before. -/
theorem pB_eq {m p : Rc} (h : pF m.sv m.nm p = false) : pB m p = !bef p m.sv m.nm := by
  have h1 := ord_eq p m
  have e : pB m p = bef m p.sv p.nm := by
    unfold pB
    have : decide (0 < cmpR p m) = !decide (cmpR p m ≤ 0) := by
      by_cases h2 : cmpR p m ≤ 0
      · simp [h2]
      · have : 0 < cmpR p m := by omega
        simp [this]
    rw [this, h1, Bool.not_not]
  rw [e]
  unfold pF at h
  unfold bef
  rw [bytesLess_eq, bytesLess_eq, bytesLess_eq, bytesLess_eq]
  by_cases a1 : m.sv.toList < p.sv.toList
  · have a2 : ¬ p.sv.toList < m.sv.toList := List.lt_asymm a1
    have a3 : ¬ p.sv.toList = m.sv.toList := fun e => by rw [e] at a1; exact List.lt_irrefl _ a1
    simp [a1, a2, a3]
  · by_cases a2 : m.sv.toList = p.sv.toList
    · rw [a2] at h ⊢
      have a0 : ¬ p.sv.toList < p.sv.toList := List.lt_irrefl _
      have b0 : ¬ p.nm.toList = m.nm.toList := by simpa using h
      by_cases b1 : m.nm.toList < p.nm.toList
      · have b2 : ¬ p.nm.toList < m.nm.toList := List.lt_asymm b1
        simp [a0, b1, b2]
      · have b2 : p.nm.toList < m.nm.toList := tri b1 (fun e => b0 e.symm)
        simp [a0, b1, b2]
    · have a3 : p.sv.toList < m.sv.toList := tri a1 a2
      simp [a1, a2, a3]
theorem findIdx_same {α : Type} {f g : α → Bool} : ∀ {l : List α}, (∀ x ∈ l, f x = g x) → l.findIdx f = l.findIdx g
  | [], _ => rfl
  | a :: l, h => by
    rw [List.findIdx_cons, List.findIdx_cons, h a (by simp), findIdx_same (l := l) (fun x hx => h x (by simp [hx]))]
theorem fidx_pS (m : Rc) (zs : List Rc) : fidx (pS m) zs = fidx (pF m.sv m.nm) zs := by rw [show pS m = pF m.sv m.nm from funext (pS_eq m)]
theorem fidx_no_mem {q : Rc → Bool} {zs : List Rc} (h : fidx q zs = -1) : ∀ p ∈ zs, q p = false := by
  rcases fidx_cases q zs with ⟨_, hno⟩ | ⟨k, _, e, _, _⟩
  · exact hno
  · omega
theorem put_new {m : Rc} {zs : List Rc} (h : fidx (pF m.sv m.nm) zs = -1) : putQ (pS m) (pB m) m zs = rputL m zs := by
  unfold putQ
  rw [fidx_pS, if_pos h]
  unfold insQ rputL rK
  rw [findIdx_same (fun p hp => pB_eq (fidx_no_mem h p hp))]
theorem put_old {m : Rc} {zs : List Rc} {k : Nat} (h : fidx (pF m.sv m.nm) zs = (k : Int)) : putQ (pS m) (pB m) m zs = zs.set k m := by
  unfold putQ
  rw [fidx_pS, if_neg (by omega), h]
  rfl
theorem bytes_eq {a b : ByteArray} (h : a.toList = b.toList) : a = b := by
  rw [Lib.toList_data, Lib.toList_data] at h
  have : a.data = b.data := Array.ext' h
  cases a; cases b; simp at this; rw [this]
theorem pF_names {s t : ByteArray} {p : Rc} (h : pF s t p = true) : p.sv = s ∧ p.nm = t := by
  unfold pF at h
  rw [Bool.and_eq_true, beq_iff_eq, beq_iff_eq] at h
  exact ⟨bytes_eq h.1, bytes_eq h.2⟩
theorem addL_eq (zs : List Rc) (m : Rc) : addL zs m = raddL zs m := by
  unfold addL raddL
  by_cases h : addE zs m = 0
  · rw [if_pos h, if_pos h]
    apply put_new
    unfold addE at h
    by_cases h1 : chk zs zs.length = 0
    · rw [if_pos h1] at h
      by_cases h2 : fileE m = 0
      · rw [if_pos h2] at h
        by_cases h3 : fidx (pF m.sv m.nm) zs = -1
        · exact h3
        · rw [if_neg h3] at h; cases h
      · rw [if_neg h2] at h; exact absurd h h2
    · rw [if_neg h1] at h; exact absurd h h1
  · rw [if_neg h, if_neg h]
theorem quarL_eq (zs : List Rc) (s t : ByteArray) : quarL zs s t = rquarL zs s t := by
  unfold quarL rquarL
  by_cases h : chk zs zs.length = 0 ∧ nmOK s t = true
  · rw [if_pos h, if_pos h]
    rcases fidx_cases (pF s t) zs with ⟨e, _⟩ | ⟨k, hk, e, hq, _⟩
    · rw [if_pos e, show getR s t zs = (t0, false) by unfold getR; rw [if_pos e]]
      exact put_new (m := quarM t0 s t) e
    · rw [if_neg (by omega), show getR s t zs = (zs.getD k t0, true) by unfold getR; rw [if_neg (by omega), e]; rfl]
      rw [put_old (m := quarM (zs.getD k t0) s t) (k := k) e, e]
      obtain ⟨n1, n2⟩ := pF_names hq
      show zs.set k (quarM (zs.getD k t0) s t) = zs.set k { zs.getD k t0 with st := 2 }
      congr 1
      unfold quarM
      rw [← n1, ← n2]
  · rw [if_neg h, if_neg h]
theorem fetL_eq (zs : List Rc) (own s t : ByteArray) (size now : Int) : fetL zs own s t size now = rfetL zs own s t size now := by
  unfold fetL rfetL
  by_cases h : fetE zs own s t size now = 0
  · rw [if_pos h, if_pos h]
    rcases fidx_cases (pF s t) zs with ⟨e, _⟩ | ⟨k, hk, e, hq, _⟩
    · rw [if_pos e, show getR s t zs = (t0, false) by unfold getR; rw [if_pos e]]
      exact put_new (m := fetM t0 s t size now) e
    · rw [if_neg (by omega), show getR s t zs = (zs.getD k t0, true) by unfold getR; rw [if_neg (by omega), e]; rfl]
      rw [put_old (m := fetM (zs.getD k t0) s t size now) (k := k) e, e]
      obtain ⟨n1, n2⟩ := pF_names hq
      show zs.set k (fetM (zs.getD k t0) s t size now) = zs.set k (rfetM (zs.getD k t0) size now)
      congr 1
      unfold fetM rfetM
      rw [← n1, ← n2]
  · rw [if_neg h, if_neg h]
end Go.Proofs.Ytahcmhjcpkjccaa
