/- Sessions: New and Give of the reference. Bound: at most 900000 shares. -/
import Derived.Test.YtbkchcpfnoclhaaGreatV18
namespace Go.Proofs.YtbkchcpfnoclhaaGreat
open Go Go.RowKit
set_option linter.unusedVariables false
set_option linter.unusedSimpArgs false
set_option maxRecDepth 100000

theorem rroom_any (s : ByteArray) (hs : s.size ≤ 9223372036854775807) (w : World) : Calls Tryz.prog 12 #[.string s] w fun e w' => e = .returned (.int .i64 (err (I.mkd 33 (bys s)))) ∧ Below w.heap.size w w' := by
  cases h : I.mkd 33 (bys s)
  all_goals
    have H := Lib.hid h
    go_enter Tryz.func12, Tryz.ntmps12
    go_wp2_with (go_at_call 29; refine (marked_any _ _ (by decide) hs _).mono ?_; rintro e w' ⟨rfl, rfl⟩)
    go_ret
    exact ⟨rfl, Below.refl _ _⟩
theorem ruserB (s : ByteArray) (hs : s.size ≤ 9223372036854775807) (w : World) : Calls Tryz.prog 19 #[.string s] w fun e w' => e = .returned (.int .i64 (err (I.mkd 64 (bys s)))) ∧ Below w.heap.size w w' := (ruser_any s hs w).mono fun e w' ⟨h, h2⟩ => ⟨h, h2 ▸ Below.refl _ _⟩
theorem gt_no1 {u d : ByteArray} {p : Rc} (h : Op.bytesLess p.us.toList u.toList = true) : gtH u d p = false := by
  rw [bytesLess_eqT] at h
  have h1 : Hd.ltR ⟨p.us, p.dv⟩ ⟨u, d⟩ := .inl (of_decide_eq_true h)
  unfold gtH
  exact decide_eq_false (fun k => Hd.ltR_asymm h1 ((Hd.cmpO_pos _ _).1 k))
theorem gt_no2 {u d : ByteArray} {p : Rc} (e : p.us = u) (h : Op.bytesLess p.dv.toList d.toList = true) : gtH u d p = false := by
  rw [bytesLess_eqT] at h
  have h1 : Hd.ltR ⟨p.us, p.dv⟩ ⟨u, d⟩ := .inr ⟨by show p.us.toList = u.toList; rw [e], of_decide_eq_true h⟩
  unfold gtH
  exact decide_eq_false (fun k => Hd.ltR_asymm h1 ((Hd.cmpO_pos _ _).1 k))
theorem gt_yes1 {u d : ByteArray} {p : Rc} (h : Op.bytesLess p.us.toList u.toList = false) (e : ¬ p.us = u) : gtH u d p = true := by
  rw [bytesLess_eqT] at h
  have h0 := of_decide_eq_false h
  unfold gtH
  refine decide_eq_true ((Hd.cmpO_pos _ _).2 ?_)
  rcases Hd.ltR_tri ⟨p.us, p.dv⟩ ⟨u, d⟩ with h1 | h1 | h1
  · rcases h1 with h1 | ⟨h1, _⟩
    · exact absurd h1 h0
    · exact absurd (eq_of_toList h1) e
  · exact absurd (congrArg Hd.Rc.us h1) e
  · exact h1
theorem gt_yes2 {u d : ByteArray} {p : Rc} (e : p.us = u) (h : Op.bytesLess p.dv.toList d.toList = false) (n : ¬ p.dv = d) : gtH u d p = true := by
  rw [bytesLess_eqT] at h
  have h0 := of_decide_eq_false h
  unfold gtH
  refine decide_eq_true ((Hd.cmpO_pos _ _).2 ?_)
  rcases Hd.ltR_tri ⟨p.us, p.dv⟩ ⟨u, d⟩ with h1 | h1 | h1
  · rcases h1 with h1 | ⟨_, h1⟩
    · rw [e] at h1; exact absurd h1 (List.lt_irrefl _)
    · exact absurd h1 h0
  · exact absurd (congrArg Hd.Rc.dv h1) n
  · exact h1
theorem find_k {q : Rc → Bool} {l : List Rc} {k : Nat} (hk : k ≤ l.length) (hn : ∀ j, j < k → q (l.getD j t0) = false) (hy : k < l.length → q (l.getD k t0) = true) : l.findIdx q = k := by
  rcases Nat.lt_or_ge k l.length with h | h
  · refine (List.findIdx_eq h).2 ⟨?_, fun j hj => ?_⟩
    · have := hy h; rwa [getD_at h] at this
    · have := hn j hj; rwa [getD_at (by omega)] at this
  · obtain rfl : k = l.length := by omega
    refine List.findIdx_eq_length.2 (fun x hx => ?_)
    obtain ⟨j, hj, rfl⟩ := List.mem_iff_getElem.1 hx
    have := hn j hj
    rwa [getD_at hj] at this
theorem fidx_anyR (q : Rc → Bool) (l : List Rc) : (0 ≤ fidx q l) ↔ l.any q = true := by
  unfold fidx
  rw [List.any_eq_true]
  constructor
  · intro h
    split at h
    · rename_i hl
      exact ⟨_, List.getElem_mem hl, List.findIdx_getElem (w := hl)⟩
    · omega
  · rintro ⟨x, hx, hq⟩
    rw [if_pos (List.findIdx_lt_length_of_exists ⟨x, hx, hq⟩)]
    omega
theorem run_fromR {A : Option Addr} {n c k : Nat} (hk : k ≤ n) (w : World) : (Instr.sliceAt 22 (.slice A n c) (some (.int .i64 (k : Int))) none none).run Tryz.prog w = .ok (.slice (if c = k then A else A.map (·.add (k * 3))) (n - k) (c - k)) w := by
  have hrun := run_slice_l (P := Tryz.prog) w 22 A n c under22 .i64 (k : Int) (by omega) (by omega)
  rw [size22e] at hrun
  rw [run_sliceAt_slice w 22 _ _ _ _ under22, hrun]
  rfl
theorem put_own {w : World} {B k : Nat} {v : Value} {l : List Rc} {x : Rc} (h : w.ownsRow B 36 3 v (k + 1 + (l.length - k)) ((cl (l.take k) ++ enc x) ++ cl (l.drop k))) (hk : k ≤ l.length) (hf : ∀ p ∈ l, fitR p) (hx : fitR x) (hn : l.length ≤ 900000) :
    ∃ A c l2, l2 = l.take k ++ x :: l.drop k ∧ v = .slice A l2.length c ∧ Rcs w A l2.length c l2 ∧ ∀ b off, A = some ⟨b, off, none⟩ → B ≤ b := by
  have e1 : (l.take k ++ x :: l.drop k).length = k + 1 + (l.length - k) := by simp; omega
  have e2 : (cl (l.take k) ++ enc x) ++ cl (l.drop k) = cl (l.take k ++ x :: l.drop k) := by
    rw [cl_snoc, ← cl_append, List.append_assoc]
    rfl
  rw [e2, ← e1] at h
  refine (Rcs.ofOwn h rfl (by omega) (fun p hp => ?_)).elim fun A h => h.elim fun c h => ⟨A, c, _, rfl, h⟩
  rcases List.mem_append.1 hp with h1 | h1
  · exact hf p (List.mem_of_mem_take h1)
  · rcases List.mem_cons.1 h1 with h2 | h2
    · rw [h2]; exact hx
    · exact hf p (List.mem_of_mem_drop h2)
set_option maxHeartbeats 4000000 in
theorem rnew6 (id : Int) (rm : ByteArray) (w : World) (hs : rm.size ≤ 9223372036854775807) : Calls Tryz.prog 6 #[.int .i64 id, .string rm] w (GiveP w (newS id rm)) := by
  have BA := Lib.hid ((Below.refl w.heap.size w).alloc (Nat.le_refl _) (.cells #[.int .i64 0, .string ⟨#[]⟩, .int .i64 0, .slice none 0 0] 24))
  have XR := Lib.hid (blk_new w [.int .i64 0, .string ⟨#[]⟩, .int .i64 0, .slice none 0 0] 24)
  have HU := Lib.hid (rroom_any rm hs (w.alloc (.cells #[.int .i64 0, .string ⟨#[]⟩, .int .i64 0, .slice none 0 0] 24)))
  have hU := Lib.hid (show newS id rm = if id < 1 ∨ 1000000000000 < id then (s0, 2) else if I.mkd 33 (bys rm) = true then (⟨id, rm, 0, []⟩, 0) else (s0, 3) from rfl)
  generalize newS id rm = X at hU ⊢
  by_cases h1 : id < 1
  · have hU2 := Lib.hid (hU.out.trans (if_pos (.inl h1)))
    go_enter Tryz.func6, Tryz.ntmps6
    go_wp2_with (first
      | (refine wpList_store_mid rfl 24 _ _ rfl w.heap.size 0 #[.int .i64 0, .string ⟨#[]⟩, .int .i64 0, .slice none 0 0] rfl rfl (Blk.there (n := 4) XR.out (by decide)) size24 (by simp [Value.oneCell']) ?_)
      | go_in)
    try simp only [Exit.inBlock, Exit.then]
    refine bodyPost_ret (results_cell_tmp_blk rfl _ _ w.heap.size [.int .i64 0, .string ⟨#[]⟩, .int .i64 0, .slice none 0 0] 24 _ rfl (XR.out.setAll [.int .i64 0, .string ⟨#[]⟩, .int .i64 0, .slice none 0 0] rfl) Tryz.underlying24 rfl size24) rfl ?_
    rw [hU2.out]
    exact ⟨_, rfl, isS_zero _, below_setRow BA.out (Nat.le_refl _) _ _⟩
  · by_cases h2 : 1000000000000 < id
    · have hU2 := Lib.hid (hU.out.trans (if_pos (.inr h2)))
      go_enter Tryz.func6, Tryz.ntmps6
      go_wp2_with (first
        | (refine wpList_store_mid rfl 24 _ _ rfl w.heap.size 0 #[.int .i64 0, .string ⟨#[]⟩, .int .i64 0, .slice none 0 0] rfl rfl (Blk.there (n := 4) XR.out (by decide)) size24 (by simp [Value.oneCell']) ?_)
        | go_in)
      try simp only [Exit.inBlock, Exit.then]
      refine bodyPost_ret (results_cell_tmp_blk rfl _ _ w.heap.size [.int .i64 0, .string ⟨#[]⟩, .int .i64 0, .slice none 0 0] 24 _ rfl (XR.out.setAll [.int .i64 0, .string ⟨#[]⟩, .int .i64 0, .slice none 0 0] rfl) Tryz.underlying24 rfl size24) rfl ?_
      rw [hU2.out]
      exact ⟨_, rfl, isS_zero _, below_setRow BA.out (Nat.le_refl _) _ _⟩
    · have hU1 := Lib.hid (hU.out.trans (if_neg (by omega)))
      cases hm : I.mkd 33 (bys rm) with
      | true =>
        have hU2 := Lib.hid (hU1.out.trans (if_pos hm))
        rw [hm, show err true = 0 from rfl] at HU
        clear hU hU1 hm
        go_enter Tryz.func6, Tryz.ntmps6
        go_wp2_with (first
          | (go_at_call 12; (with_reducible refine HU.out.mono ?_); rintro e w1 ⟨rfl, hb⟩; have R1 := Lib.hid (XR.out.below hb); have B1 := Lib.hid (BA.out.trans (hb.mono BA.out.size)); clear hb)
          | (refine wpList_store_mid rfl 24 _ _ rfl w.heap.size 0 #[.int .i64 id, .string rm, .int .i64 0, .slice none 0 0] rfl rfl (Blk.there (n := 4) R1.out (by decide)) size24 (by simp [Value.oneCell']) ?_)
          | go_in)
        try simp only [Exit.inBlock, Exit.then]
        refine bodyPost_ret (results_cell_tmp_blk rfl _ _ w.heap.size [.int .i64 id, .string rm, .int .i64 0, .slice none 0 0] 24 _ rfl (R1.out.setAll [.int .i64 id, .string rm, .int .i64 0, .slice none 0 0] rfl) Tryz.underlying24 rfl size24) rfl ?_
        rw [hU2.out]
        exact ⟨_, rfl, ⟨none, 0, rfl, Rcs.nil _⟩, below_setRow B1.out (Nat.le_refl _) _ _⟩
      | false =>
        have hU2 := Lib.hid (hU1.out.trans (if_neg (by rw [hm]; decide)))
        rw [hm, show err false = 3 from rfl] at HU
        clear hU hU1 hm
        go_enter Tryz.func6, Tryz.ntmps6
        go_wp2_with (first
          | (go_at_call 12; (with_reducible refine HU.out.mono ?_); rintro e w1 ⟨rfl, hb⟩; have R1 := Lib.hid (XR.out.below hb); have B1 := Lib.hid (BA.out.trans (hb.mono BA.out.size)); clear hb)
          | (refine wpList_store_mid rfl 24 _ _ rfl w.heap.size 0 #[.int .i64 0, .string ⟨#[]⟩, .int .i64 0, .slice none 0 0] rfl rfl (Blk.there (n := 4) R1.out (by decide)) size24 (by simp [Value.oneCell']) ?_)
          | go_in)
        try simp only [Exit.inBlock, Exit.then]
        refine bodyPost_ret (results_cell_tmp_blk rfl _ _ w.heap.size [.int .i64 0, .string ⟨#[]⟩, .int .i64 0, .slice none 0 0] 24 _ rfl (R1.out.setAll [.int .i64 0, .string ⟨#[]⟩, .int .i64 0, .slice none 0 0] rfl) Tryz.underlying24 rfl size24) rfl ?_
        rw [hU2.out]
        exact ⟨_, rfl, isS_zero _, below_setRow B1.out (Nat.le_refl _) _ _⟩
end Go.Proofs.YtbkchcpfnoclhaaGreat
