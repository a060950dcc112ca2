/- Sessions: Reads, New, Give of the program. Bound: at most 900000 shares. -/
import Derived.Test.YtbkchcpfnoclhaaGreatV8
namespace Go.Proofs.YtbkchcpfnoclhaaGreat
set_option maxRecDepth 100000
open Go Go.RowKit
set_option linter.unusedVariables false
set_option linter.unusedSimpArgs false
set_option maxRecDepth 100000

/-- Whether a device reads a message. -/
def rdB (l : List Rc) (nx : Int) (u d : ByteArray) (ix : Int) : Bool := match l.find? (smH u d) with
  | none => false
  | some p => decide (0 ≤ ix) && decide (p.ix ≤ ix) && decide (ix < nx)
theorem find_none {q : Rc → Bool} {zs : List Rc} (h : ∀ p ∈ zs, q p = false) : zs.find? q = none := List.find?_eq_none.2 (fun p hp => by rw [h p hp]; simp)
theorem find_at {q : Rc → Bool} {zs : List Rc} {k : Nat} (hk : k < zs.length) (h : q (zs.getD k t0) = true) (hn : ∀ p ∈ zs.take k, q p = false) : zs.find? q = some (zs.getD k t0) := by
  have e : zs = zs.take k ++ (zs.getD k t0) :: zs.drop (k + 1) := by
    rw [getD_at hk]
    exact (List.take_append_drop k zs).symm.trans (by rw [List.drop_eq_getElem_cons hk])
  rw [e, List.find?_append, List.find?_eq_none.2 (fun p hp => by rw [hn p hp]; simp), Option.none_or, List.find?_cons]
  rw [← e, h]
set_option maxHeartbeats 4000000 in
theorem reads13 (id : Int) (rm : ByteArray) (nx : Int) (A : Option Addr) (c : Nat) (l : List Rc) (u d : ByteArray) (ix : Int) (w : World) (h : Rcs w A l.length c l) : Calls Tryz.prog 24 #[.agg #[.int .i64 id, .string rm, .int .i64 nx, .slice A l.length c], .string u, .string d, .int .i64 ix] w fun r w' => r = .returned (.bool (rdB l nx u d ix)) ∧ Below w.heap.size w w' := by
  have BA := Lib.hid ((Below.refl w.heap.size w).alloc (Nat.le_refl _) (.cells #[.int .i64 id, .string rm, .int .i64 nx, .slice A l.length c] 24))
  have XS := Lib.hid (blk_new w (sC id rm nx A l.length c) 24)
  have HF := Lib.hid (find28 id rm nx A l.length c l u d _ (h.below BA.out))
  have H := Lib.hid h
  have hbig := h.rws.big
  unfold maxLen at hbig
  have RG := Lib.hid XS.out.range
  have HR := Lib.hid (show rdB l nx u d ix = (match l.find? (smH u d) with
    | none => false
    | some p => decide (0 ≤ ix) && decide (p.ix ≤ ix) && decide (ix < nx)) from rfl)
  generalize rdB l nx u d ix = rb at HR ⊢
  clear h
  rcases fidx_cases (smH u d) l with ⟨e, hno⟩ | ⟨k, hk, e, hq, hnk⟩
  · have HR2 := Lib.hid (show rb = false by rw [HR.out, find_none hno])
    rw [e] at HF
    clear e hno HR
    go_enter Tryz.func24, Tryz.ntmps24
    go_wp2_with (first
      | (refine wpList_load_mid rfl 24 _ rfl w.heap.size 0 rfl (sC id rm nx A l.length c) _ RG.out Tryz.underlying24 rfl size24 ?_)
      | (go_at_call 14; (with_reducible refine HF.out.mono ?_); rintro e w1 ⟨rfl, hb⟩; have B1 := Lib.hid (BA.out.trans (hb.mono BA.out.size)); clear hb)
      | go_in)
    go_ret
    exact ⟨ret_bl HR2.out.symm, B1.out⟩
  · have HR2 := Lib.hid (show rb = (decide (0 ≤ ix) && decide ((l.getD k t0).ix ≤ ix) && decide (ix < nx)) by rw [HR.out, find_at hk hq hnk])
    rw [e] at HF
    have hkz : (k : Int) < (l.length : Int) := by omega
    have hk0 : (0 : Int) ≤ (k : Int) := by omega
    obtain ⟨b, off, rfl, hbl, hr, _⟩ := H.out.get hk
    have q2 : w.cell? ⟨b, off + k * 3 + 2, none⟩ = some (.int .i64 (l.getD k t0).ix) := hr 2 _ rfl
    have HQ := Lib.hid (fun x (hb : Below w.heap.size w x) => (hb.cell (p := ⟨b, off + k * 3 + 2, none⟩) hbl).trans q2)
    clear e hq hnk HR hr q2 H
    generalize (l.getD k t0).ix = px at HR2 HQ
    have STEP : ∀ q : Bool, q = (decide (0 ≤ ix) && decide (px ≤ ix) && decide (ix < nx)) → rb = q := fun q h => HR2.out.trans h.symm
    have HST := Lib.hid STEP
    clear STEP HR2
    by_cases h1 : (0 : Int) ≤ ix
    · by_cases h2 : px ≤ ix
      · by_cases h3 : ix < nx
        · have HE := Lib.hid (HST.out true (by rw [decide_eq_true h1, decide_eq_true h2, decide_eq_true h3]; rfl))
          clear HST
          go_enter Tryz.func24, Tryz.ntmps24
          go_wp2_with (first
            | (refine wpList_load_mid rfl 24 _ rfl w.heap.size 0 rfl (sC id rm nx (some ⟨b, off, none⟩) l.length c) _ RG.out Tryz.underlying24 rfl size24 ?_)
            | (go_at_call 14; (with_reducible refine HF.out.mono ?_); rintro e w1 ⟨rfl, hb⟩; have B1 := Lib.hid (BA.out.trans (hb.mono BA.out.size)); have X1 := Lib.hid (XS.out.below hb); have q0 := HQ.out _ B1.out; have y3 := X1.out.cell (i := 3) rfl; have y2 := X1.out.cell (i := 2) rfl; clear hb)
            | go_in)
          go_ret
          first | exact ⟨ret_bl HE.out.symm, B1.out⟩ | exact ⟨ret_bl ((decide_eq_false (by omega)).trans HE.out.symm), B1.out⟩
        · have HE := Lib.hid (HST.out false (by rw [decide_eq_false h3, Bool.and_false]))
          clear HST
          go_enter Tryz.func24, Tryz.ntmps24
          go_wp2_with (first
            | (refine wpList_load_mid rfl 24 _ rfl w.heap.size 0 rfl (sC id rm nx (some ⟨b, off, none⟩) l.length c) _ RG.out Tryz.underlying24 rfl size24 ?_)
            | (go_at_call 14; (with_reducible refine HF.out.mono ?_); rintro e w1 ⟨rfl, hb⟩; have B1 := Lib.hid (BA.out.trans (hb.mono BA.out.size)); have X1 := Lib.hid (XS.out.below hb); have q0 := HQ.out _ B1.out; have y3 := X1.out.cell (i := 3) rfl; have y2 := X1.out.cell (i := 2) rfl; clear hb)
            | go_in)
          go_ret
          first | exact ⟨ret_bl HE.out.symm, B1.out⟩ | exact ⟨ret_bl ((decide_eq_false (by omega)).trans HE.out.symm), B1.out⟩
      · have HE := Lib.hid (HST.out false (by rw [decide_eq_false h2, Bool.and_false, Bool.false_and]))
        clear HST
        go_enter Tryz.func24, Tryz.ntmps24
        go_wp2_with (first
          | (refine wpList_load_mid rfl 24 _ rfl w.heap.size 0 rfl (sC id rm nx (some ⟨b, off, none⟩) l.length c) _ RG.out Tryz.underlying24 rfl size24 ?_)
          | (go_at_call 14; (with_reducible refine HF.out.mono ?_); rintro e w1 ⟨rfl, hb⟩; have B1 := Lib.hid (BA.out.trans (hb.mono BA.out.size)); have X1 := Lib.hid (XS.out.below hb); have q0 := HQ.out _ B1.out; have y3 := X1.out.cell (i := 3) rfl; have y2 := X1.out.cell (i := 2) rfl; clear hb)
          | go_in)
        go_ret
        first | exact ⟨ret_bl HE.out.symm, B1.out⟩ | exact ⟨ret_bl ((decide_eq_false (by omega)).trans HE.out.symm), B1.out⟩
    · have HE := Lib.hid (HST.out false (by rw [decide_eq_false h1, Bool.false_and, Bool.false_and]))
      clear HST
      go_enter Tryz.func24, Tryz.ntmps24
      go_wp2_with (first
        | (refine wpList_load_mid rfl 24 _ rfl w.heap.size 0 rfl (sC id rm nx (some ⟨b, off, none⟩) l.length c) _ RG.out Tryz.underlying24 rfl size24 ?_)
        | (go_at_call 14; (with_reducible refine HF.out.mono ?_); rintro e w1 ⟨rfl, hb⟩; have B1 := Lib.hid (BA.out.trans (hb.mono BA.out.size)); have X1 := Lib.hid (XS.out.below hb); clear hb)
        | go_in)
      go_ret
      first | exact ⟨ret_bl HE.out.symm, B1.out⟩ | exact ⟨ret_bl ((decide_eq_false (by omega)).trans HE.out.symm), B1.out⟩
/-- What New gives. -/
def newS (id : Int) (rm : ByteArray) : Ses × Int := if id < 1 ∨ 1000000000000 < id then (s0, 2) else if I.mkd 33 (bys rm) = true then (⟨id, rm, 0, []⟩, 0) else (s0, 3)
def GiveP (w : World) (x : Ses × Int) (r : Ending) (w' : World) : Prop := ∃ v, r = .returned (.tuple #[v, .int .i64 x.2]) ∧ IsS w' x.1 v ∧ Below w.heap.size w w'
set_option maxHeartbeats 4000000 in
theorem new24 (id : Int) (rm : ByteArray) (w : World) (hs : rm.size ≤ 9223372036854775807) : Calls Tryz.prog 5 #[.int .i64 id, .string rm] w (GiveP w (newS id rm)) := by
  have BA := Lib.hid ((Below.refl w.heap.size w).alloc (Nat.le_refl _) (.cells #[.int .i64 0, .string ⟨#[]⟩, .int .i64 0, .slice none 0 0] 24))
  have XR := Lib.hid (blk_new w [.int .i64 0, .string ⟨#[]⟩, .int .i64 0, .slice none 0 0] 24)
  have HU := Lib.hid (room_any rm hs (w.alloc (.cells #[.int .i64 0, .string ⟨#[]⟩, .int .i64 0, .slice none 0 0] 24)))
  have hU := Lib.hid (show newS id rm = if id < 1 ∨ 1000000000000 < id then (s0, 2) else if I.mkd 33 (bys rm) = true then (⟨id, rm, 0, []⟩, 0) else (s0, 3) from rfl)
  generalize newS id rm = X at hU ⊢
  by_cases h1 : id < 1
  · have hU2 := Lib.hid (hU.out.trans (if_pos (.inl h1)))
    go_enter Tryz.func5, Tryz.ntmps5
    go_wp2_with (first
      | (refine wpList_store_mid rfl 24 _ _ rfl w.heap.size 0 #[.int .i64 0, .string ⟨#[]⟩, .int .i64 0, .slice none 0 0] rfl rfl (Blk.there (n := 4) XR.out (by decide)) size24 (by simp [Value.oneCell']) ?_)
      | go_in)
    try simp only [Exit.inBlock, Exit.then]
    refine bodyPost_ret (results_cell_tmp_blk rfl _ _ w.heap.size [.int .i64 0, .string ⟨#[]⟩, .int .i64 0, .slice none 0 0] 24 _ rfl (XR.out.setAll [.int .i64 0, .string ⟨#[]⟩, .int .i64 0, .slice none 0 0] rfl) Tryz.underlying24 rfl size24) rfl ?_
    rw [hU2.out]
    exact ⟨_, rfl, isS_zero _, below_setRow BA.out (Nat.le_refl _) _ _⟩
  · by_cases h2 : 1000000000000 < id
    · have hU2 := Lib.hid (hU.out.trans (if_pos (.inr h2)))
      go_enter Tryz.func5, Tryz.ntmps5
      go_wp2_with (first
        | (refine wpList_store_mid rfl 24 _ _ rfl w.heap.size 0 #[.int .i64 0, .string ⟨#[]⟩, .int .i64 0, .slice none 0 0] rfl rfl (Blk.there (n := 4) XR.out (by decide)) size24 (by simp [Value.oneCell']) ?_)
        | go_in)
      try simp only [Exit.inBlock, Exit.then]
      refine bodyPost_ret (results_cell_tmp_blk rfl _ _ w.heap.size [.int .i64 0, .string ⟨#[]⟩, .int .i64 0, .slice none 0 0] 24 _ rfl (XR.out.setAll [.int .i64 0, .string ⟨#[]⟩, .int .i64 0, .slice none 0 0] rfl) Tryz.underlying24 rfl size24) rfl ?_
      rw [hU2.out]
      exact ⟨_, rfl, isS_zero _, below_setRow BA.out (Nat.le_refl _) _ _⟩
    · have hU1 := Lib.hid (hU.out.trans (if_neg (by omega)))
      cases hm : I.mkd 33 (bys rm) with
      | true =>
        have hU2 := Lib.hid (hU1.out.trans (if_pos hm))
        rw [hm, show err true = 0 from rfl] at HU
        clear hU hU1 hm
        go_enter Tryz.func5, Tryz.ntmps5
        go_wp2_with (first
          | (go_at_call 11; (with_reducible refine HU.out.mono ?_); rintro e w1 ⟨rfl, hb⟩; have R1 := Lib.hid (XR.out.below hb); have B1 := Lib.hid (BA.out.trans (hb.mono BA.out.size)); clear hb)
          | (refine wpList_store_mid rfl 24 _ _ rfl w.heap.size 0 #[.int .i64 id, .string rm, .int .i64 0, .slice none 0 0] rfl rfl (Blk.there (n := 4) R1.out (by decide)) size24 (by simp [Value.oneCell']) ?_)
          | go_in)
        try simp only [Exit.inBlock, Exit.then]
        refine bodyPost_ret (results_cell_tmp_blk rfl _ _ w.heap.size [.int .i64 id, .string rm, .int .i64 0, .slice none 0 0] 24 _ rfl (R1.out.setAll [.int .i64 id, .string rm, .int .i64 0, .slice none 0 0] rfl) Tryz.underlying24 rfl size24) rfl ?_
        rw [hU2.out]
        exact ⟨_, rfl, ⟨none, 0, rfl, Rcs.nil _⟩, below_setRow B1.out (Nat.le_refl _) _ _⟩
      | false =>
        have hU2 := Lib.hid (hU1.out.trans (if_neg (by rw [hm]; decide)))
        rw [hm, show err false = 3 from rfl] at HU
        clear hU hU1 hm
        go_enter Tryz.func5, Tryz.ntmps5
        go_wp2_with (first
          | (go_at_call 11; (with_reducible refine HU.out.mono ?_); rintro e w1 ⟨rfl, hb⟩; have R1 := Lib.hid (XR.out.below hb); have B1 := Lib.hid (BA.out.trans (hb.mono BA.out.size)); clear hb)
          | (refine wpList_store_mid rfl 24 _ _ rfl w.heap.size 0 #[.int .i64 0, .string ⟨#[]⟩, .int .i64 0, .slice none 0 0] rfl rfl (Blk.there (n := 4) R1.out (by decide)) size24 (by simp [Value.oneCell']) ?_)
          | go_in)
        try simp only [Exit.inBlock, Exit.then]
        refine bodyPost_ret (results_cell_tmp_blk rfl _ _ w.heap.size [.int .i64 0, .string ⟨#[]⟩, .int .i64 0, .slice none 0 0] 24 _ rfl (R1.out.setAll [.int .i64 0, .string ⟨#[]⟩, .int .i64 0, .slice none 0 0] rfl) Tryz.underlying24 rfl size24) rfl ?_
        rw [hU2.out]
        exact ⟨_, rfl, isS_zero _, below_setRow B1.out (Nat.le_refl _) _ _⟩
/-- The holder of the share comes after the device. -/
def gtH (u d : ByteArray) (p : Rc) : Bool := decide (0 < cmpO ⟨p.us, p.dv⟩ ⟨u, d⟩)
/-- What Give gives. -/
def giveS (S : Ses) (u d : ByteArray) : Ses × Int := if ¬ I.mkd 64 (bys u) = true ∨ d.size < 1 ∨ 32 < d.size then (s0, 3) else if 0 ≤ fidx (smH u d) S.l then (s0, 4) else if 2000 ≤ S.l.length then (s0, 29) else (⟨S.id, S.rm, S.nx, insQ (gtH u d) ⟨u, d, S.nx⟩ S.l⟩, 0)
theorem bel_of {a b w : World} (h : Below a.heap.size a b) (h1 : Below b.heap.size b w) : Below a.heap.size a w := h.trans (h1.mono h.size)
set_option maxHeartbeats 16000000 in
theorem give25 (S : Ses) (A : Option Addr) (c : Nat) (u d : ByteArray) (w : World) (h : Rcs w A S.l.length c S.l) (hn : S.l.length ≤ 900000) (hu : u.size ≤ 9223372036854775807) (hd : d.size ≤ 9223372036854775807) : Calls Tryz.prog 7 #[.agg #[.int .i64 S.id, .string S.rm, .int .i64 S.nx, .slice A S.l.length c], .string u, .string d] w (GiveP w (giveS S u d)) := by
  obtain ⟨id, rm, nx, l⟩ := S
  dsimp only at h hn ⊢
  have BA := Lib.hid (((Below.refl w.heap.size w).alloc (Nat.le_refl _) (.cells #[.int .i64 id, .string rm, .int .i64 nx, .slice A l.length c] 24)).alloc (by simp) (.cells #[.int .i64 0, .string ⟨#[]⟩, .int .i64 0, .slice none 0 0] 24))
  have XS := Lib.hid ((blk_new w (sC id rm nx A l.length c) 24).alloc (.cells #[.int .i64 0, .string ⟨#[]⟩, .int .i64 0, .slice none 0 0] 24))
  have XR := Lib.hid (blk_new2 w (.cells #[.int .i64 id, .string rm, .int .i64 nx, .slice A l.length c] 24) [.int .i64 0, .string ⟨#[]⟩, .int .i64 0, .slice none 0 0] 24)
  have HU := Lib.hid (user_any u hu _ : Calls Tryz.prog 13 #[.string u] ((w.alloc (.cells #[.int .i64 id, .string rm, .int .i64 nx, .slice A l.length c] 24)).alloc (.cells #[.int .i64 0, .string ⟨#[]⟩, .int .i64 0, .slice none 0 0] 24)) _)
  have H := Lib.hid h
  have HUd := Lib.hid (And.intro hu hd)
  have hU := Lib.hid (show giveS ⟨id, rm, nx, l⟩ u d = if ¬ I.mkd 64 (bys u) = true ∨ d.size < 1 ∨ 32 < d.size then (s0, 3) else if 0 ≤ fidx (smH u d) l then (s0, 4) else if 2000 ≤ l.length then (s0, 29) else (⟨id, rm, nx, insQ (gtH u d) ⟨u, d, nx⟩ l⟩, 0) from rfl)
  generalize giveS ⟨id, rm, nx, l⟩ u d = X at hU ⊢
  clear h hu hd
  cases hm : I.mkd 64 (bys u) with
  | false =>
    have hU2 := Lib.hid (hU.out.trans (if_pos (.inl (by rw [hm]; decide))))
    rw [hm, show err false = 3 from rfl] at HU
    clear hm hU
    go_enter Tryz.func7, Tryz.ntmps7
    go_wp2_with (first
      | (go_at_call 13; (with_reducible refine HU.out.mono ?_); rintro e w1 ⟨rfl, hb⟩; have X1 := Lib.hid (XS.out.below hb); have R1 := Lib.hid (XR.out.below hb); have B1 := Lib.hid (BA.out.trans (hb.mono BA.out.size)); clear hb)
      | (refine wpList_store_mid rfl 24 _ _ rfl (w.heap.size + 1) 0 #[.int .i64 0, .string ⟨#[]⟩, .int .i64 0, .slice none 0 0] rfl rfl (Blk.there (n := 4) R1.out (by decide)) size24 (by simp [Value.oneCell']) ?_)
      | go_in)
    try simp only [Exit.inBlock, Exit.then]
    refine bodyPost_ret (results_cell_tmp_blk rfl _ _ (w.heap.size + 1) [.int .i64 0, .string ⟨#[]⟩, .int .i64 0, .slice none 0 0] 24 _ rfl (R1.out.setAll [.int .i64 0, .string ⟨#[]⟩, .int .i64 0, .slice none 0 0] rfl) Tryz.underlying24 rfl size24) rfl ?_
    rw [hU2.out]
    exact ⟨_, rfl, isS_zero _, below_setRow B1.out (Nat.le_succ _) _ _⟩
  | true =>
    rw [hm, show err true = 0 from rfl] at HU
    by_cases d1 : d.size < 1
    · have hU2 := Lib.hid (hU.out.trans (if_pos (.inr (.inl d1))))
      have g1 : (d.size : Int) < 1 := by omega
      clear hm hU
      go_enter Tryz.func7, Tryz.ntmps7
      go_wp2_with (first
        | (go_at_call 13; (with_reducible refine HU.out.mono ?_); rintro e w1 ⟨rfl, hb⟩; have X1 := Lib.hid (XS.out.below hb); have R1 := Lib.hid (XR.out.below hb); have B1 := Lib.hid (BA.out.trans (hb.mono BA.out.size)); clear hb)
        | (refine wpList_store_mid rfl 24 _ _ rfl (w.heap.size + 1) 0 #[.int .i64 0, .string ⟨#[]⟩, .int .i64 0, .slice none 0 0] rfl rfl (Blk.there (n := 4) R1.out (by decide)) size24 (by simp [Value.oneCell']) ?_)
        | go_in)
      try simp only [Exit.inBlock, Exit.then]
      refine bodyPost_ret (results_cell_tmp_blk rfl _ _ (w.heap.size + 1) [.int .i64 0, .string ⟨#[]⟩, .int .i64 0, .slice none 0 0] 24 _ rfl (R1.out.setAll [.int .i64 0, .string ⟨#[]⟩, .int .i64 0, .slice none 0 0] rfl) Tryz.underlying24 rfl size24) rfl ?_
      rw [hU2.out]
      exact ⟨_, rfl, isS_zero _, below_setRow B1.out (Nat.le_succ _) _ _⟩
    · by_cases d2 : 32 < d.size
      · have hU2 := Lib.hid (hU.out.trans (if_pos (.inr (.inr d2))))
        have g1 : ¬ (d.size : Int) < 1 := by omega
        have g2 : (32 : Int) < (d.size : Int) := by omega
        clear hm hU
        go_enter Tryz.func7, Tryz.ntmps7
        go_wp2_with (first
          | (go_at_call 13; (with_reducible refine HU.out.mono ?_); rintro e w1 ⟨rfl, hb⟩; have X1 := Lib.hid (XS.out.below hb); have R1 := Lib.hid (XR.out.below hb); have B1 := Lib.hid (BA.out.trans (hb.mono BA.out.size)); clear hb)
          | (refine wpList_store_mid rfl 24 _ _ rfl (w.heap.size + 1) 0 #[.int .i64 0, .string ⟨#[]⟩, .int .i64 0, .slice none 0 0] rfl rfl (Blk.there (n := 4) R1.out (by decide)) size24 (by simp [Value.oneCell']) ?_)
          | go_in)
        try simp only [Exit.inBlock, Exit.then]
        refine bodyPost_ret (results_cell_tmp_blk rfl _ _ (w.heap.size + 1) [.int .i64 0, .string ⟨#[]⟩, .int .i64 0, .slice none 0 0] 24 _ rfl (R1.out.setAll [.int .i64 0, .string ⟨#[]⟩, .int .i64 0, .slice none 0 0] rfl) Tryz.underlying24 rfl size24) rfl ?_
        rw [hU2.out]
        exact ⟨_, rfl, isS_zero _, below_setRow B1.out (Nat.le_succ _) _ _⟩
      · have hU1 := Lib.hid (hU.out.trans (if_neg (by rintro (h | h | h); exact h hm; omega; omega)))
        have g1 : ¬ (d.size : Int) < 1 := by omega
        have g2 : ¬ (32 : Int) < (d.size : Int) := by omega
        have HFi := Lib.hid (fun x (hb : Below w.heap.size w x) => find28 id rm nx A l.length c l u d x (H.out.below hb))
        clear hm hU
        have g3 : (0 : Int) ≤ (d.size : Int) := by omega
        by_cases hf : (0 : Int) ≤ fidx (smH u d) l
        · have hU2 := Lib.hid (hU1.out.trans (if_pos hf))
          clear hU1
          generalize fidx (smH u d) l = fx at HFi hf
          go_enter Tryz.func7, Tryz.ntmps7
          go_upto_region 4 with (first
            | (go_at_call 13; (with_reducible refine HU.out.mono ?_); rintro e w1 ⟨rfl, hb⟩; have X1 := Lib.hid (XS.out.below hb); have R1 := Lib.hid (XR.out.below hb); have B1 := Lib.hid (BA.out.trans (hb.mono BA.out.size)); clear hb)
            | fail)
          have X2 := Lib.hid (X1.out.alloc (.cells #[.string u, .string d] 39))
          have R2 := Lib.hid (R1.out.alloc (.cells #[.string u, .string d] 39))
          have HB2 := Lib.hid (blk_new w1 [.string u, .string d] 39)
          have B2 := Lib.hid (B1.out.alloc B1.out.size (.cells #[.string u, .string d] 39))
          generalize hw2 : w1.alloc _ = w2 at X2 R2 HB2 B2 ⊢
          generalize hgh : w1.heap.size = gh at HB2 ⊢
          have RG2 := Lib.hid X2.out.range
          have RH2 := Lib.hid HB2.out.range
          clear hw2 hgh
          go_wp2_with (first
            | (refine wpList_load_mid rfl 24 _ rfl w.heap.size 0 rfl (sC id rm nx A l.length c) _ RG2.out Tryz.underlying24 rfl size24 ?_)
            | (refine wpList_load_mid rfl 39 _ rfl gh 0 rfl [.string u, .string d] _ RH2.out Tryz.underlying39 rfl size61 ?_)
            | (go_at_call 14; (with_reducible refine (HFi.out _ B2.out).mono ?_); rintro e w3 ⟨rfl, hb⟩; have R3 := Lib.hid (R2.out.below hb); have B3 := Lib.hid (B2.out.trans (hb.mono B2.out.size)); clear hb)
            | (refine wpList_store_mid rfl 24 _ _ rfl (w.heap.size + 1) 0 #[.int .i64 0, .string ⟨#[]⟩, .int .i64 0, .slice none 0 0] rfl rfl (Blk.there (n := 4) R3.out (by decide)) size24 (by simp [Value.oneCell']) ?_)
            | go_in)
          try simp only [Exit.inBlock, Exit.then]
          refine bodyPost_ret (results_cell_tmp_blk rfl _ _ (w.heap.size + 1) [.int .i64 0, .string ⟨#[]⟩, .int .i64 0, .slice none 0 0] 24 _ rfl (R3.out.setAll [.int .i64 0, .string ⟨#[]⟩, .int .i64 0, .slice none 0 0] rfl) Tryz.underlying24 rfl size24) rfl ?_
          rw [hU2.out]
          exact ⟨_, rfl, isS_zero _, below_setRow B3.out (Nat.le_succ _) _ _⟩
        · have hU3 := Lib.hid (hU1.out.trans (if_neg hf))
          clear hU1
          by_cases hl : 2000 ≤ l.length
          · have hU2 := Lib.hid (hU3.out.trans (if_pos hl))
            have hlz : (2000 : Int) ≤ (l.length : Int) := by omega
            clear hU3
            generalize fidx (smH u d) l = fx at HFi hf
            go_enter Tryz.func7, Tryz.ntmps7
            go_upto_region 4 with (first
              | (go_at_call 13; (with_reducible refine HU.out.mono ?_); rintro e w1 ⟨rfl, hb⟩; have X1 := Lib.hid (XS.out.below hb); have R1 := Lib.hid (XR.out.below hb); have B1 := Lib.hid (BA.out.trans (hb.mono BA.out.size)); clear hb)
              | fail)
            have X2 := Lib.hid (X1.out.alloc (.cells #[.string u, .string d] 39))
            have R2 := Lib.hid (R1.out.alloc (.cells #[.string u, .string d] 39))
            have HB2 := Lib.hid (blk_new w1 [.string u, .string d] 39)
            have B2 := Lib.hid (B1.out.alloc B1.out.size (.cells #[.string u, .string d] 39))
            generalize hw2 : w1.alloc _ = w2 at X2 R2 HB2 B2 ⊢
            generalize hgh : w1.heap.size = gh at HB2 ⊢
            have RG2 := Lib.hid X2.out.range
            have RH2 := Lib.hid HB2.out.range
            clear hw2 hgh
            go_wp2_with (first
              | (refine wpList_load_mid rfl 24 _ rfl w.heap.size 0 rfl (sC id rm nx A l.length c) _ RG2.out Tryz.underlying24 rfl size24 ?_)
              | (refine wpList_load_mid rfl 39 _ rfl gh 0 rfl [.string u, .string d] _ RH2.out Tryz.underlying39 rfl size61 ?_)
              | (go_at_call 14; (with_reducible refine (HFi.out _ B2.out).mono ?_); rintro e w3 ⟨rfl, hb⟩; have R3 := Lib.hid (R2.out.below hb); have y3 := (X2.out.below hb).cell (i := 3) rfl; have B3 := Lib.hid (B2.out.trans (hb.mono B2.out.size)); clear hb)
              | (refine wpList_store_mid rfl 24 _ _ rfl (w.heap.size + 1) 0 #[.int .i64 0, .string ⟨#[]⟩, .int .i64 0, .slice none 0 0] rfl rfl (Blk.there (n := 4) R3.out (by decide)) size24 (by simp [Value.oneCell']) ?_)
              | go_in)
            try simp only [Exit.inBlock, Exit.then]
            refine bodyPost_ret (results_cell_tmp_blk rfl _ _ (w.heap.size + 1) [.int .i64 0, .string ⟨#[]⟩, .int .i64 0, .slice none 0 0] 24 _ rfl (R3.out.setAll [.int .i64 0, .string ⟨#[]⟩, .int .i64 0, .slice none 0 0] rfl) Tryz.underlying24 rfl size24) rfl ?_
            rw [hU2.out]
            exact ⟨_, rfl, isS_zero _, below_setRow B3.out (Nat.le_succ _) _ _⟩
          · have hU2 := Lib.hid (hU3.out.trans (if_neg hl))
            have hlz : ¬ (2000 : Int) ≤ (l.length : Int) := by omega
            clear hU3
            generalize fidx (smH u d) l = fx at HFi hf
            go_enter Tryz.func7, Tryz.ntmps7
            go_upto_region 4 with (first
              | (go_at_call 13; (with_reducible refine HU.out.mono ?_); rintro e w1 ⟨rfl, hb⟩; have X1 := Lib.hid (XS.out.below hb); have R1 := Lib.hid (XR.out.below hb); have B1 := Lib.hid (BA.out.trans (hb.mono BA.out.size)); clear hb)
              | fail)
            have X2 := Lib.hid (X1.out.alloc (.cells #[.string u, .string d] 39))
            have R2 := Lib.hid (R1.out.alloc (.cells #[.string u, .string d] 39))
            have HB2 := Lib.hid (blk_new w1 [.string u, .string d] 39)
            have B2 := Lib.hid (B1.out.alloc B1.out.size (.cells #[.string u, .string d] 39))
            generalize hw2 : w1.alloc _ = w2 at X2 R2 HB2 B2 ⊢
            generalize hgh : w1.heap.size = gh at HB2 ⊢
            have RG2 := Lib.hid X2.out.range
            have RH2 := Lib.hid HB2.out.range
            clear hw2 hgh
            go_upto_region 9 with (first
              | (refine wpList_load_mid rfl 24 _ rfl w.heap.size 0 rfl (sC id rm nx A l.length c) _ RG2.out Tryz.underlying24 rfl size24 ?_)
              | (refine wpList_load_mid rfl 39 _ rfl gh 0 rfl [.string u, .string d] _ RH2.out Tryz.underlying39 rfl size61 ?_)
              | (go_at_call 14; (with_reducible refine (HFi.out _ B2.out).mono ?_); rintro e w3 ⟨rfl, hb⟩; have R3 := Lib.hid (R2.out.below hb); have X3 := Lib.hid (X2.out.below hb); have H3 := Lib.hid (HB2.out.below hb); have y3 := X3.out.cell (i := 3) rfl; have y2 := X3.out.cell (i := 2) rfl; have B3 := Lib.hid (B2.out.trans (hb.mono B2.out.size)); clear hb)
              | fail)
            clear y2 y3
            have X4 := Lib.hid (blk_new w3 [.string u, .string d, .int .i64 nx] 36)
            have S4 := Lib.hid (X3.out.alloc (.cells #[.string u, .string d, .int .i64 nx] 36))
            have R4 := Lib.hid (R3.out.alloc (.cells #[.string u, .string d, .int .i64 nx] 36))
            have H4 := Lib.hid (H3.out.alloc (.cells #[.string u, .string d, .int .i64 nx] 36))
            have B4 := Lib.hid (B3.out.alloc B3.out.size (.cells #[.string u, .string d, .int .i64 nx] 36))
            have HIn := Lib.hid (oins_any (.func (.func 16) #[] #[.pointer (some ⟨gh, 0, none⟩)]) (gtH u d) A l.length c l ⟨u, d, nx⟩ (w3.alloc (.cells #[.string u, .string d, .int .i64 nx] 36)) (H.out.below B4.out) HUd.out hn (fun x hb => index37 (gtH u d) gh A l.length c l x (H.out.below (B4.out.trans (hb.mono B4.out.size))) (fun p y hy => give37 p.us p.dv u d p.ix gh y ((H4.out.below hb).below hy))) _ rfl)
            unfold FilP at HIn
            generalize insQ (gtH u d) ⟨u, d, nx⟩ l = l2 at HIn hU2
            have HLt := Lib.hid (show w.heap.size + 1 < w3.heap.size + 1 by have := R3.out.lt; omega)
            have y3 := S4.out.cell (i := 3) rfl
            have RG4 := Lib.hid X4.out.range
            go_upto_region 10 with (first
              | (refine wpList_load_mid rfl 36 _ rfl w3.heap.size 0 rfl [.string u, .string d, .int .i64 nx] _ RG4.out Tryz.underlying36 rfl size55 ?_)
              | (go_at_call 15; (with_reducible refine HIn.out.mono ?_); rintro e w5 ⟨A5, c5, rfl, hr, hb, hnw⟩; have L5 := Lib.hid hr; have NW := Lib.hid (show ∀ b off, A5 = some ⟨b, off, none⟩ → w.heap.size + 1 < b from fun b off e => by have h1 := hnw b off e; rw [World.size_alloc] at h1; have := HLt.out; omega); have S5 := Lib.hid (S4.out.below hb); have R5 := Lib.hid (R4.out.below hb); have B5 := Lib.hid (B4.out.trans (hb.mono B4.out.size)); have f3 := S5.out.free 3; have z3 := S5.out.cell (i := 3) rfl; clear hr hb hnw y3)
              | fail)
            generalize hwd : World.setCell _ _ _ = wd
            have XD := Lib.hid (show Blk wd w.heap.size (sC id rm nx A5 l2.length c5) 24 by rw [← hwd]; exact S5.out.set 3 _)
            have RD := Lib.hid (show Blk wd (w.heap.size + 1) [.int .i64 0, .string ⟨#[]⟩, .int .i64 0, .slice none 0 0] 24 by rw [← hwd]; exact R5.out.other _ _ (by simp))
            have BD := Lib.hid (show Below w.heap.size w wd by rw [← hwd]; exact B5.out.setCell (p := ⟨w.heap.size, 3, none⟩) (Nat.le_refl _) _)
            have LD := Lib.hid (show Rcs wd A5 l2.length c5 l2 by rw [← hwd]; exact L5.out.setRow (t := w.heap.size) (fun b off e => by have := NW.out b off e; omega) [.slice A5 l2.length c5] 3)
            clear hwd f3 z3
            go_wp2_with (first
              | (refine wpList_load_mid rfl 24 _ rfl w.heap.size 0 rfl (sC id rm nx A5 l2.length c5) _ XD.out.range Tryz.underlying24 rfl size24 ?_)
              | (refine wpList_store_mid rfl 24 _ _ rfl (w.heap.size + 1) 0 #[.int .i64 id, .string rm, .int .i64 nx, .slice A5 l2.length c5] rfl rfl (Blk.there (n := 4) RD.out (by decide)) size24 (by simp [Value.oneCell']) ?_)
              | go_in)
            try simp only [Exit.inBlock, Exit.then]
            refine bodyPost_ret (results_cell_tmp_blk rfl _ _ (w.heap.size + 1) [.int .i64 id, .string rm, .int .i64 nx, .slice A5 l2.length c5] 24 _ rfl (RD.out.setAll [.int .i64 id, .string rm, .int .i64 nx, .slice A5 l2.length c5] rfl) Tryz.underlying24 rfl size24) rfl ?_
            rw [hU2.out]
            exact ⟨_, rfl, ⟨A5, c5, rfl, LD.out.setRow NW.out _ _⟩, below_setRow BD.out (Nat.le_succ _) _ _⟩
end Go.Proofs.YtbkchcpfnoclhaaGreat
