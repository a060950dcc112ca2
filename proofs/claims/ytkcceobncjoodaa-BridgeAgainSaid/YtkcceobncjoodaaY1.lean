/- Identities of other networks: the ghost of an identity gives it back; ghosts of different identities differ; Bind again. Plain facts; no walk. -/
import Derived.Test.YtkcceobncjoodaaV5
namespace Go.Proofs.Ytkcceobncjoodaa
set_option linter.unusedVariables false
set_option linter.unusedSimpArgs false

theorem loc_unique {a b a' b' : ByteArray} (ha : I.isLoc (bys a) = true) (ha' : I.isLoc (bys a') = true) (h : mkS 64 a b = mkS 64 a' b') : a = a' ∧ b = b' := by
  have h1 := congrArg bys h
  rw [mkS_bys (by omega) (by omega), mkS_bys (by omega) (by omega)] at h1
  have h2 := (List.cons.inj h1).2
  have hl : (bys a).length = (bys a').length := by
    rw [← I.col_append_colon (bys a) (bys b) (I.isLoc_ne ha), h2, I.col_append_colon _ _ (I.isLoc_ne ha')]
  obtain ⟨h3, h4⟩ := List.append_inj h2 hl
  exact ⟨bys_inj h3, bys_inj (List.cons.inj h4).2⟩
theorem uc_app {a : List Int} (r : List Int) (h : ∀ x ∈ a, x ≠ 95) : Und.uc (a ++ 95 :: r) = a.length := by
  induction a with
  | nil => rfl
  | cons c l ih =>
    rw [List.cons_append, Und.uc_cons _ (h c (by simp)), ih (fun x hx => h x (by simp [hx])), List.length_cons]
theorem net_ne {l : List Int} (h : E.net l = true) : ∀ x ∈ l, x ≠ 95 := by
  intro x hx
  have h1 := List.all_eq_true.1 (net_all h).1 x hx
  have := E.letB_iff.1 h1
  omega
theorem lcl_ju {nw nm : ByteArray} (h : E.net (bys nw) = true) : ju (lcl nw nm) = nw.size := by
  unfold ju
  rw [lcl_bys, List.drop_succ_cons, List.drop_zero, uc_app _ (net_ne h), bys_len]
theorem lcl_nw {nw nm : ByteArray} (h : E.net (bys nw) = true) : nwP (lcl nw nm) = nw := by
  apply bys_inj
  rw [nw_bys, lcl_ju h, lcl_bys, List.drop_succ_cons, List.drop_zero, ← bys_len nw, List.take_left]
theorem lcl_es {nw nm : ByteArray} (h : E.net (bys nw) = true) : bys (esP (lcl nw nm)) = E.esc (bys nm) := by
  rw [es_bys, lcl_ju h, lcl_bys, List.drop_succ_cons, ← bys_len nw]
  rw [← List.drop_drop, List.drop_left, List.drop_succ_cons, List.drop_zero]
theorem lcl_up {nw nm : ByteArray} (h : E.net (bys nw) = true) : upR (bys (esP (lcl nw nm))) = (bys nm, true) := by
  rw [lcl_es h]
  exact up_true.2 ((E.dec_iff E.fP_ok E.fP_byt (E.esc_byt (bys_byt nm))).2 ⟨bys_byt nm, rfl⟩)
theorem lcl_good {nw nm : ByteArray} (h : E.net (bys nw) = true) (hm : nm.size ≠ 0) : good (lcl nw nm) = true := by
  unfold good
  rw [lcl_up h, lcl_nw h, h, lcl_ju h, lcl_size, lcl_bys]
  have hne : bys nm ≠ [] := by
    intro e
    have := bys_len nm
    rw [e] at this
    exact hm this.symm
  rw [decide_eq_true (show ((95 :: (bys nw ++ 95 :: E.esc (bys nm))).getD 0 0 = 95 ∧ nw.size + 1 < 2 + nw.size + (E.esc (bys nm)).length) from ⟨rfl, by omega⟩), decide_eq_true (show (bys nm, true).1 ≠ [] from hne)]
  rfl
/-- What User gives, Back takes to the identity. -/
theorem us_back {nw nm sv : ByteArray} (h : usE nw nm sv = 0) : bkE (usS nw nm sv) = 0 ∧ bkN (usS nw nm sv) = nw ∧ bkM (usS nw nm sv) = nm ∧ srvA (usS nw nm sv) = sv ∧ I.mkd 64 (bys (usS nw nm sv)) = true ∧ (usS nw nm sv).size ≤ 34 + sv.size := by
  rcases us_cases nw nm sv with ⟨_, e, hm, hn, hz, hs, hl⟩ | ⟨e, _⟩
  · have hp := s_parts hm
    obtain ⟨e1, e2⟩ := loc_unique (isLoc_P hm).1 (lcl_loc hn hl) hp
    rw [e]
    have hg : good (locP (mkS 64 (lcl nw nm) sv)) = true := by rw [e1]; exact lcl_good hn hz
    obtain ⟨b1, b2, b3⟩ := bk_good hm hg
    refine ⟨b3, by rw [b1, e1, lcl_nw hn], ?_, by rw [(locA_of hm).2, e2], hm, by rw [mkS_size]; omega⟩
    rw [b2, e1]
    unfold nmP
    rw [lcl_up hn]
    exact nums_bys nm
  · exact absurd h e
theorem us_inj {a b c a' b' c' : ByteArray} (h : usE a b c = 0) (h' : usE a' b' c' = 0) (e : usS a b c = usS a' b' c') : a = a' ∧ b = b' ∧ c = c' := by
  obtain ⟨_, x1, x2, x3, _⟩ := us_back h
  obtain ⟨_, y1, y2, y3, _⟩ := us_back h'
  rw [e] at x1 x2 x3
  exact ⟨x1.symm.trans y1, x2.symm.trans y2, x3.symm.trans y3⟩
/-- The error does not depend on the server, if that is right. -/
theorem us_other {a b c d : ByteArray} (h : usE a b c = 0) (hd : I.isSrv (bys d) = true) : usE a b d = 0 := by
  rcases us_cases a b c with ⟨_, _, _, hn, hz, _, hl⟩ | ⟨e, _⟩
  · unfold usE
    rw [if_pos hn, if_neg hz, if_pos hd, if_neg (by omega)]
  · exact absurd h e
theorem insQ_len' (q : Rc → Bool) (x : Rc) (zs : List Rc) : (insQ q x zs).length = zs.length + 1 := by
  unfold insQ
  have h : zs.findIdx q ≤ zs.length := List.findIdx_le_length
  simp
  omega
theorem step_zero {zs : List Rc} {i : Nat} : stepC zs i = 0 ↔ bkE (zs.getD i t0).us = 0 ∧ bkN (zs.getD i t0).us = (zs.getD i t0).nt ∧ bkM (zs.getD i t0).us = (zs.getD i t0).na ∧ (0 < i → prec (zs.getD (i - 1) t0) (zs.getD i t0) = true) := by
  rw [stepC_eq]
  by_cases h0 : bkE (zs.getD i t0).us = 0
  · rw [if_pos h0]
    by_cases h1 : bkN (zs.getD i t0).us = (zs.getD i t0).nt ∧ bkM (zs.getD i t0).us = (zs.getD i t0).na
    · rw [if_pos h1]
      by_cases h2 : 0 < i ∧ prec (zs.getD (i - 1) t0) (zs.getD i t0) = false
      · rw [if_pos h2]
        exact ⟨fun h => absurd h (by decide), fun h => by have := h.2.2.2 h2.1; rw [h2.2] at this; cases this⟩
      · rw [if_neg h2]
        refine ⟨fun _ => ⟨h0, h1.1, h1.2, fun hi => ?_⟩, fun _ => rfl⟩
        cases hp : prec (zs.getD (i - 1) t0) (zs.getD i t0)
        · exact absurd ⟨hi, hp⟩ h2
        · rfl
    · rw [if_neg h1]
      exact ⟨fun h => absurd h (by decide), fun h => absurd ⟨h.2.1, h.2.2.1⟩ h1⟩
  · rw [if_neg h0]
    exact ⟨fun h => absurd h h0, fun h => absurd h.1 h0⟩
theorem ins_getD (q : Rc → Bool) (g : Rc) (zs : List Rc) (j : Nat) : (insQ q g zs).getD j t0 = if j < zs.findIdx q then zs.getD j t0 else if j = zs.findIdx q then g else zs.getD (j - 1) t0 := by
  have hk : zs.findIdx q ≤ zs.length := List.findIdx_le_length
  unfold insQ
  generalize zs.findIdx q = k at *
  rw [List.getD_eq_getElem?_getD]
  by_cases h1 : j < k
  · rw [if_pos h1, List.getElem?_append_left (by rw [List.length_take]; omega), List.getElem?_take_of_lt h1, List.getD_eq_getElem?_getD]
  · rw [if_neg h1, List.getElem?_append_right (by rw [List.length_take]; omega), List.length_take, Nat.min_eq_left hk]
    by_cases h2 : j = k
    · rw [if_pos h2, h2, Nat.sub_self]; rfl
    · rw [if_neg h2]
      obtain ⟨m, hm⟩ : ∃ m, j - k = m + 1 := ⟨j - k - 1, by omega⟩
      rw [hm, List.getElem?_cons_succ, List.getElem?_drop, List.getD_eq_getElem?_getD, show k + m = j - 1 by omega]
theorem idx_lt {q : Rc → Bool} {zs : List Rc} {j : Nat} (h : j < zs.findIdx q) : q (zs.getD j t0) = false := by
  have hk : zs.findIdx q ≤ zs.length := List.findIdx_le_length
  rw [getD_at (by omega)]
  have := List.not_of_lt_findIdx h
  simpa using this
theorem idx_at {q : Rc → Bool} {zs : List Rc} (h : zs.findIdx q < zs.length) : q (zs.getD (zs.findIdx q) t0) = true := by
  rw [getD_at h]
  exact List.findIdx_getElem (w := h)
theorem chkC_zero {zs : List Rc} {n : Nat} : chkC zs n = 0 ↔ n ≤ 200 ∧ ∀ i, i < n → stepC zs i = 0 := by
  unfold chkC
  by_cases h : 200 < n
  · rw [if_pos h]
    exact ⟨fun h => absurd h (by decide), fun h2 => by omega⟩
  · rw [if_neg h]
    exact ⟨fun h2 => ⟨by omega, chk_zero h2⟩, fun h2 => chk_no h2.2⟩
/-- Bind of a right list gives a right one. -/
theorem ins_chk {zs : List Rc} {nt na sv : ByteArray} (hc : chkC zs zs.length = 0) (hE : usE nt na sv = 0) (hi : idf zs nt na = none) (hl : zs.length < 200) :
    chkC (insQ (prec ⟨nt, na, usS nt na sv⟩) ⟨nt, na, usS nt na sv⟩ zs) (zs.length + 1) = 0 := by
  obtain ⟨b1, b2, b3, _⟩ := us_back hE
  have hno := idm_none hi
  generalize usS nt na sv = U at *
  have hz := (chkC_zero.1 hc).2
  have hk : zs.findIdx (prec ⟨nt, na, U⟩) ≤ zs.length := List.findIdx_le_length
  have hlt : ∀ j, j < zs.findIdx (prec ⟨nt, na, U⟩) → prec (zs.getD j t0) ⟨nt, na, U⟩ = true := fun j hj => by
    have h1 := idx_lt hj
    rw [prec_flip (hno _ (by rw [getD_at (by omega)]; exact List.getElem_mem _))] at h1
    simpa using h1
  have hat : zs.findIdx (prec ⟨nt, na, U⟩) < zs.length → prec ⟨nt, na, U⟩ (zs.getD (zs.findIdx (prec ⟨nt, na, U⟩)) t0) = true := fun h => idx_at h
  refine chkC_zero.2 ⟨by omega, fun i hin => step_zero.2 ?_⟩
  rw [ins_getD, ins_getD]
  generalize zs.findIdx (prec ⟨nt, na, U⟩) = k at *
  by_cases c1 : i < k
  · rw [if_pos c1, if_pos (show i - 1 < k by omega)]
    exact step_zero.1 (hz i (by omega))
  · rw [if_neg c1]
    by_cases c2 : i = k
    · rw [if_pos c2]
      refine ⟨b1, b2, b3, fun h0 => ?_⟩
      rw [if_pos (show i - 1 < k by omega)]
      exact hlt _ (by omega)
    · rw [if_neg c2, if_neg (show ¬ i - 1 < k by omega)]
      obtain ⟨e1, e2, e3, e4⟩ := step_zero.1 (hz (i - 1) (by omega))
      refine ⟨e1, e2, e3, fun h0 => ?_⟩
      by_cases c3 : i - 1 = k
      · rw [if_pos c3, c3]
        exact hat (by omega)
      · rw [if_neg c3]
        exact e4 (by omega)
theorem ins_idf {zs : List Rc} {nt na U : ByteArray} (q : Rc → Bool) (hi : idf zs nt na = none) : idf (insQ q ⟨nt, na, U⟩ zs) nt na = some U := by
  have hno := idm_none hi
  unfold idf insQ
  rw [List.find?_append, List.find?_eq_none.2 (fun p hp => by rw [hno p (List.mem_of_mem_take hp)]; simp), Option.none_or, List.find?_cons]
  rw [show idm nt na ⟨nt, na, U⟩ = true from idm_iff.2 ⟨rfl, rfl⟩]
  rfl
/-- Bind again. -/
theorem bd_again {zs : List Rc} {nt na sv d : ByteArray} (hc : chkC zs zs.length = 0) (hn : zs.length ≤ 60) (he : (bd zs nt na sv).2.2 = 0) (hd : I.isSrv (bys d) = true) :
    chkC (bd zs nt na sv).1 (bd zs nt na sv).1.length = 0 ∧ bd (bd zs nt na sv).1 nt na d = ((bd zs nt na sv).1, (bd zs nt na sv).2.1, 0) := by
  by_cases hE : usE nt na sv = 0
  · cases hi : idf zs nt na with
    | some u =>
      rw [bd_old hE hi]
      exact ⟨hc, bd_old (us_other hE hd) hi⟩
    | none =>
      rw [bd_new hE hi (by omega)]
      simp only
      rw [insQ_len']
      exact ⟨ins_chk hc hE hi (by omega), bd_old (us_other hE hd) (ins_idf _ hi)⟩
  · rw [bd_bad hE] at he
    exact absurd he hE
/-- The texts of what Bind gives are short. -/
theorem bd_sh {zs : List Rc} {nt na sv : ByteArray} (hs : Sh 100 zs) (h1 : nt.size ≤ 100) (h2 : na.size ≤ 100) (h3 : sv.size ≤ 100) : Sh 100000 (bd zs nt na sv).1 := by
  have hw : Sh 100000 zs := fun p hp => ⟨Nat.le_trans (hs p hp).1 (by decide), Nat.le_trans (hs p hp).2.1 (by decide), Nat.le_trans (hs p hp).2.2 (by decide)⟩
  by_cases hE : usE nt na sv = 0
  · cases hi : idf zs nt na with
    | some u => rw [bd_old hE hi]; exact hw
    | none =>
      by_cases hl : 200 ≤ zs.length
      · rw [bd_full hE hi hl]; exact fun p hp => by simp at hp
      · rw [bd_new hE hi hl]
        have hb := (us_back hE).2.2.2.2.2
        intro p hp
        unfold insQ at hp
        simp only at hp
        rcases List.mem_append.1 hp with hp | hp
        · exact hw p (List.mem_of_mem_take hp)
        · rcases List.mem_cons.1 hp with rfl | hp
          · exact ⟨by simp only; omega, by simp only; omega, by simp only; omega⟩
          · exact hw p (List.mem_of_mem_drop hp)
  · rw [bd_bad hE]; exact fun p hp => by simp at hp
end Go.Proofs.Ytkcceobncjoodaa
