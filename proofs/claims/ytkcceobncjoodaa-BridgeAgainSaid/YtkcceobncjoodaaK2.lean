/- Identities of other networks: Back of the reference. Bound: texts of at most 100000 bytes. -/
import Derived.Test.YtkcceobncjoodaaK1
namespace Go.Proofs.Ytkcceobncjoodaa
open Go.RowKit
set_option linter.unusedVariables false
set_option linter.unusedSimpArgs false

theorem up_true {l n : List Int} : upR l = (n, true) ↔ E.dec E.fP l = some n := by
  unfold upR E.dec
  cases h : E.un E.fP l with
  | none => simp
  | some m =>
    by_cases e : E.esc m = l
    · simp [e]
    · simp only [Option.bind_some, if_neg e, decide_eq_false e]
      simp
theorem ur_true {l n : List Int} : urR l = (n, true) ↔ E.un E.fR l = some n := by
  unfold urR
  cases h : E.un E.fR l with
  | none => simp
  | some m => simp
theorem dec_un {l n : List Int} : E.dec E.fR l = some n ↔ E.un E.fR l = some n ∧ E.esc n = l := by
  unfold E.dec
  rw [Option.bind_eq_some_iff]
  constructor
  · rintro ⟨m, hm, h⟩
    split at h
    · cases h; exact ⟨hm, by assumption⟩
    · cases h
  · rintro ⟨h1, h2⟩
    exact ⟨n, h1, by rw [if_pos h2]⟩
theorem ur_byt (s : ByteArray) : E.Byt (urR (bys s)).1 := by
  unfold urR
  cases h : E.un E.fR (bys s) with
  | none => exact fun c hc => by simp at hc
  | some m => exact E.un_byt E.fR_byt _ _ (bys_byt s) h
theorem uc_at {l : List Int} (h : Und.uc l < l.length) : l.getD (Und.uc l) 0 = 95 := by
  unfold Und.uc at h ⊢
  have := List.findIdx_getElem (p := (· == (95 : Int))) (w := h)
  rw [List.getD_eq_getElem?_getD, List.getElem?_eq_getElem h]
  simpa using this
theorem uc_lt {l : List Int} {j : Nat} (h : j < Und.uc l) : l.getD j 0 ≠ 95 := by
  have hl := Und.uc_le l
  have := List.not_of_lt_findIdx (p := (· == (95 : Int))) h
  rw [List.getD_eq_getElem?_getD, List.getElem?_eq_getElem (by omega)]
  simpa using this
theorem drop_getD (l : List Int) (j : Nat) : (l.drop 1).getD j 0 = l.getD (j + 1) 0 := by
  rw [List.getD_eq_getElem?_getD, List.getD_eq_getElem?_getD, List.getElem?_drop, Nat.add_comm]
/-- A local part that begins with an underscore and has another one. -/
theorem L_parts {L : ByteArray} (h0 : (bys L).getD 0 0 = 95) (hj : ju L + 1 < L.size) : bys L = 95 :: (bys (nwP L) ++ 95 :: bys (esP L)) := by
  have h1 : bys L = 95 :: (bys L).drop 1 := by
    match h : bys L, h0 with
    | c :: r, h0 => simp at h0; subst h0; rfl
    | [], _ => have := bys_len L; rw [h] at this; simp at this; omega
  have hlen : ju L < ((bys L).drop 1).length := by rw [List.length_drop, bys_len]; omega
  have h2 : (bys L).drop 1 = ((bys L).drop 1).take (ju L) ++ 95 :: ((bys L).drop 1).drop (ju L + 1) := by
    have ha : ((bys L).drop 1).getD (ju L) 0 = 95 := uc_at (l := (bys L).drop 1) hlen
    rw [List.getD_eq_getElem?_getD, List.getElem?_eq_getElem hlen] at ha
    have ha' : ((bys L).drop 1)[ju L] = 95 := ha
    conv => lhs; rw [← List.take_append_drop (ju L) ((bys L).drop 1), List.drop_eq_getElem_cons hlen, ha']
  rw [nw_bys, es_bys]
  conv => lhs; rw [h1, h2]
  rw [List.drop_drop, show 1 + (ju L + 1) = ju L + 2 by omega]
theorem s_parts {s : ByteArray} (hm : I.mkd 64 (bys s) = true) : mkS 64 (locP s) (srvP s) = s := by
  apply bys_inj
  rw [mkS_bys (by omega) (by omega), I.mkd_parts hm]
  unfold locP srvP
  rw [bys_extract, bys_from]
theorem isLoc_P {s : ByteArray} (hm : I.mkd 64 (bys s) = true) : I.isLoc (bys (locP s)) = true ∧ I.isSrv (bys (srvP s)) = true := by
  have h1 := I.mkd_iff.1 hm
  unfold locP srvP
  rw [bys_extract, bys_from]
  exact h1.2
/-- What is right for the program is right for the reference, with the same name. -/
theorem good_yes {s : ByteArray} (hm : I.mkd 64 (bys s) = true) (hg : good (locP s) = true) :
    (bys (locP s)).getD 0 0 = 95 ∧ ju (locP s) + 1 < (locP s).size ∧ (urR (bys (esP (locP s)))).2 = true ∧ strOfNums (urR (bys (esP (locP s)))).1 = nmP (locP s) ∧ usE (nwP (locP s)) (nmP (locP s)) (srvP s) = 0 ∧ usS (nwP (locP s)) (nmP (locP s)) (srvP s) = s := by
  have hr := locP_rng hm
  unfold good at hg
  rw [Bool.and_eq_true, Bool.and_eq_true, Bool.and_eq_true, decide_eq_true_iff, decide_eq_true_iff] at hg
  obtain ⟨⟨h0, hj⟩, hn, hne, hok⟩ := hg
  have hloc := isLoc_P hm
  have hsp := s_parts hm
  generalize locP s = L at *
  generalize srvP s = sv at *
  obtain ⟨n, hn1⟩ : ∃ n, (upR (bys (esP L))).1 = n := ⟨_, rfl⟩
  have hu : upR (bys (esP L)) = (n, true) := by rw [← hok, ← hn1]
  rw [hn1] at hne
  have hnm : nmP L = strOfNums n := by unfold nmP; rw [hn1]
  have hd := up_true.1 hu
  have hd2 := hd
  rw [E.dec_same (bys_byt _)] at hd2
  obtain ⟨k1, k2⟩ := dec_un.1 hd2
  have hR : urR (bys (esP L)) = (n, true) := ur_true.2 k1
  obtain ⟨hb, _⟩ := (E.dec_iff E.fP_ok E.fP_byt (bys_byt _)).1 hd
  rw [hnm, hR]
  have hlcl : lcl (nwP L) (strOfNums n) = L := by
    apply bys_inj
    rw [lcl_bys, bys_nums hb, k2, ← L_parts h0 hj]
  have hE : usE (nwP L) (strOfNums n) sv = 0 := by
    unfold usE
    rw [if_pos hn, if_neg, if_pos hloc.2, hlcl, if_neg (by omega)]
    rw [strOfNums_size]
    intro h
    exact hne (List.eq_nil_of_length_eq_zero h)
  refine ⟨h0, hj, rfl, rfl, hE, ?_⟩
  unfold usS
  rw [if_pos hE, hlcl, hsp]
/-- What is right for the reference is right for the program. -/
theorem good_of {s : ByteArray} (hm : I.mkd 64 (bys s) = true) (h0 : (bys (locP s)).getD 0 0 = 95) (hj : ju (locP s) + 1 < (locP s).size) (hok : (urR (bys (esP (locP s)))).2 = true)
    (hE : usE (nwP (locP s)) (strOfNums (urR (bys (esP (locP s)))).1) (srvP s) = 0) (hS : usS (nwP (locP s)) (strOfNums (urR (bys (esP (locP s)))).1) (srvP s) = s) : good (locP s) = true := by
  have hbt := ur_byt (esP (locP s))
  have hR : urR (bys (esP (locP s))) = ((urR (bys (esP (locP s)))).1, true) := by rw [← hok]
  generalize (urR (bys (esP (locP s)))).1 = n at *
  rcases us_cases (nwP (locP s)) (strOfNums n) (srvP s) with ⟨_, e2, _, hn, hsz, _⟩ | ⟨e1, _⟩
  · rw [e2] at hS
    have h1 := congrArg bys hS
    rw [mkS_bys (by omega) (by omega)] at h1
    have h2 := congrArg bys (s_parts hm)
    rw [mkS_bys (by omega) (by omega)] at h2
    rw [← h2] at h1
    have h3 : bys (lcl (nwP (locP s)) (strOfNums n)) = bys (locP s) := by
      have := (List.cons.inj h1).2
      exact List.append_cancel_right this
    rw [lcl_bys, bys_nums hbt, L_parts h0 hj] at h3
    have h4 : E.esc n = bys (esP (locP s)) := by
      have := (List.cons.inj h3).2
      have := List.append_cancel_left this
      exact (List.cons.inj this).2
    have hd : E.dec E.fR (bys (esP (locP s))) = some n := dec_un.2 ⟨ur_true.1 hR, h4⟩
    rw [← E.dec_same (bys_byt _)] at hd
    have hu := up_true.2 hd
    unfold good
    rw [decide_eq_true ⟨h0, hj⟩, hn, hu]
    rw [strOfNums_size] at hsz
    have hne : n ≠ [] := by intro e; exact hsz (by rw [e]; rfl)
    simp [hne]
  · exact absurd hE e1
theorem un_len {f : Int → Int → Option Int} : ∀ (l n : List Int), E.un f l = some n → n.length ≤ l.length := by
  intro l
  induction l using E.un.induct with
  | case1 => intro n h; simp [E.un] at h; subst h; simp
  | case2 => intro n h; simp [E.un] at h
  | case3 c hc => intro n h; simp [E.un, hc] at h; subst h; simp
  | case4 d => intro n h; simp [E.un] at h
  | case5 c d hc ih =>
    intro n h
    rw [E.un_plain hc, Option.map_eq_some_iff] at h
    obtain ⟨m, hm, rfl⟩ := h
    have := ih m hm
    simp at this ⊢
    omega
  | case6 a b r ih =>
    intro n h
    rw [E.un_eq, Option.bind_eq_some_iff] at h
    obtain ⟨x, hx, h⟩ := h
    rw [Option.map_eq_some_iff] at h
    obtain ⟨m, hm, rfl⟩ := h
    have := ih m hm
    simp at this ⊢
    omega
  | case7 c a b r hc ih =>
    intro n h
    rw [E.un_plain hc, Option.map_eq_some_iff] at h
    obtain ⟨m, hm, rfl⟩ := h
    have := ih m hm
    simp at this ⊢
    omega
theorem ur_len (l : List Int) {m : Nat} (h : l.length ≤ m) : (urR l).1.length ≤ m := by
  unfold urR
  cases hx : E.un E.fR l with
  | none => simp
  | some n => exact Nat.le_trans (un_len l n hx) h
theorem rserverOfb (s : ByteArray) (hs : s.size ≤ 9223372036854775807) (w : World) : Calls Try.prog 22 #[.string s] w fun e w' => e = .returned (.string (srvA s)) ∧ Below w.heap.size w w' :=
  (rserverOf_any s hs w).mono fun e w' ⟨h1, h2⟩ => ⟨h1, by rw [← h2]; exact Below.refl _ _⟩
theorem ret_ssi {a b c d : ByteArray} {x y : Int} (h1 : a = b) (h2 : c = d) (h3 : x = y) : Ending.returned (.tuple #[.string a, .string c, .int .i64 x]) = .returned (.tuple #[.string b, .string d, .int .i64 y]) := by rw [h1, h2, h3]
set_option maxRecDepth 100000 in
set_option maxHeartbeats 8000000 in
theorem rback14 (s : ByteArray) (hs : s.size ≤ 100000) (w : World) : Calls Try.prog 14 #[.string s] w (BkP w s) := by
  unfold BkP
  have U1 := Lib.hid (ruser_any s (by omega))
  have L1 := Lib.hid (rlocalOf_any s (by omega))
  cases hm : I.mkd 64 (bys s)
  · obtain ⟨e1, e2, e3⟩ := bk_no hm
    rw [e1, e2, e3]
    rw [hm, err_f] at U1
    clear e1 e2 e3 hm
    go_enter Try.func14, Try.ntmps14
    go_wp2_with (go_at_call 21; (with_reducible refine (U1.out _).mono ?_); rintro e w' ⟨rfl, rfl⟩)
    go_ret3
    exact ⟨rfl, Below.refl _ _⟩
  have hr := locP_rng hm
  have hsz := srv_size s hs
  rw [(locA_of hm).1] at L1
  have SV := Lib.hid (rserverOfb s (by omega))
  rw [(locA_of hm).2] at SV
  have HBad := Lib.hid (fun hg => bk_bad hm hg)
  have HGood := Lib.hid (fun hg => bk_good hm hg)
  have GY := Lib.hid (fun hg => good_yes hm hg)
  have GO := Lib.hid (fun h0 hj hok hE hS => good_of hm h0 hj hok hE hS)
  rw [hm, err_t] at U1
  clear hm
  generalize locP s = L at *
  generalize srvP s = sv at *
  have hjl : ju L ≤ L.size - 1 := by have := Und.uc_le ((bys L).drop 1); rw [List.length_drop, bys_len] at this; exact this
  have HLt := Lib.hid (fun (k : Nat) (h1 : 1 ≤ k) (h2 : k < ju L + 1) (h3 : k < L.size) => show ((L[k].toNat : Int) != 95) = true by
    have := uc_lt (l := (bys L).drop 1) (j := k - 1) (by unfold ju at h2; omega)
    rw [drop_getD, show k - 1 + 1 = k by omega, bys_getD L k h3] at this
    simpa using this)
  have HAt := Lib.hid (fun (h3 : ju L + 1 < L.size) => show ((L[ju L + 1].toNat : Int) != 95) = false by
    have := uc_at (l := (bys L).drop 1) (by rw [List.length_drop, bys_len]; unfold ju at h3; omega)
    rw [drop_getD] at this
    have h4 : (bys L).getD (ju L + 1) 0 = 95 := this
    rw [bys_getD L _ h3] at h4
    simpa using h4)
  have HNw := Lib.hid (show L.extract 1 (ju L + 1) = nwP L from rfl)
  have HEs := Lib.hid (show L.extract (ju L + 1 + 1) L.size = esP L from rfl)
  have hz0 : 0 < L.size := by omega
  have HG0 := Lib.hid (bys_getD L 0 hz0)
  obtain ⟨j, hj⟩ : ∃ j, ju L + 1 = j := ⟨_, rfl⟩
  rw [hj] at HLt HAt HNw HEs
  have HJ := Lib.hid hj
  have hj1 : 1 ≤ j := by omega
  have hj2 : j ≤ L.size := by omega
  clear hj hjl
  go_enter Try.func14, Try.ntmps14
  go_wp2_with (first
    | (go_at_call 21; (with_reducible refine (U1.out _).mono ?_); rintro e w' ⟨rfl, rfl⟩)
    | (go_at_call 36; (with_reducible refine (L1.out _).mono ?_); rintro e w' ⟨rfl, rfl⟩))
  go_loopg [6] j (fun gg s6 wr => ∃ k : Nat, 1 ≤ k ∧ k ≤ j ∧ j - k ≤ gg ∧ s6 = .int .i64 k ∧ w = wr)
  case atStart => exact ⟨1, Nat.le_refl _, hj1, by omega, rfl, rfl⟩
  case round =>
    obtain ⟨k, hk1, hk2, hg, rfl, rfl⟩ := hrel
    by_cases hkj : k < j
    · have hks : k < L.size := by omega
      have hcb := HLt.out k hk1 hkj hks
      go_wp2
      go_roundg (j - (k + 1))
      case measure => omega
      case rel => exact ⟨k + 1, by omega, by omega, by omega, by go_num, rfl⟩
    · obtain rfl : k = j := by omega
      by_cases hjs : k < L.size
      · have hcb := HAt.out hjs
        cases hc0 : ((L[0].toNat : Int) != 95)
        · have H0 := Lib.hid (show (bys L).getD 0 0 = 95 by rw [HG0.out]; simpa using hc0)
          have hkz : ¬ (L.size : Int) ≤ (k : Int) := by omega
          have c1 : (1 : Int) ≤ (k : Int) := by omega
          have c2 : (k : Int) ≤ (L.size : Int) := by omega
          have c3 : (0 : Int) ≤ (k : Int) + 1 := by omega
          have c4 : (k : Int) + 1 ≤ (L.size : Int) := by omega
          have hes : (esP L).size ≤ 1000000 := by rw [← HEs.out, extract_size _ _ _ (Nat.le_refl _)]; omega
          have hnw : (nwP L).size ≤ 100000 := by rw [← HNw.out, extract_size _ _ _ (by omega)]; omega
          have UN := Lib.hid (runescape37 (esP L) hes)
          have hnl : (urR (bys (esP L))).1.length ≤ 100000 := ur_len _ (by rw [bys_len, ← HEs.out, extract_size _ _ _ (Nat.le_refl _)]; omega)
          have US := Lib.hid (ruser11 (nwP L) (strOfNums (urR (bys (esP L))).1) sv hnw (by rw [strOfNums_size]; exact hnl) hsz)
          have GO2 := Lib.hid (fun hok hE hS => GO.out H0.out (by rw [HJ.out]; exact hjs) hok hE hS)
          have GY2 := Lib.hid (fun hg => (GY.out hg).2.2)
          unfold UsP at US
          have hes2 := HEs.out
          have hnw2 := HNw.out
          clear hes hnw hnl GY GO HAt HLt
          generalize hnm : strOfNums (urR (bys (esP L))).1 = nm at *
          generalize (urR (bys (esP L))).2 = ok at *
          generalize hEE : usE (nwP L) nm sv = EE at *
          generalize hGG : usS (nwP L) nm sv = GG at *
          generalize nmP L = nmp at *
          generalize hnwx : nwP L = nw at *
          generalize hesx : esP L = es at *
          go_upto_region 10 with (go_at_call 37; (with_reducible refine (UN.out _).mono ?_); rintro e w9 ⟨rfl, hb9⟩; have B9 := Lib.hid hb9; clear hb9)
          refine wp_region_held_drew (S := (fun w0 => Below w9.heap.size w9 w0)) (by kernel_rfl) ((Below.refl _ _).drew) (fun hH0 => ?_)
          generalize w9.drew = y0 at hH0 ⊢
          have RB0 : Hid (Below w9.heap.size w9 y0) := Lib.hid hH0
          refine wpAnyH_take (i := 0) (oi := ({ dst := some 46, op := Op.move (Operand.tmp 5), type := 9, pos := "ref.go:103", after := #[], guard := none } : Oper)) (v := ?hv1) rfl (by kernel_rfl) (by kernel_rfl) (by kernel_rfl) (fun _ _ _ h => h) (Or.inl ⟨by rfl, ?hy1⟩) (by assumption) ?hr1
          case hy1 => (intro w hSw; (try dsimp only at hSw); go_simp; (try with_reducible rfl))
          try simp only [Act.put, List.setIfInBounds_toArray, List.set_cons_zero, List.set_cons_succ]
          refine wpAnyH_take (i := 1) (oi := ({ dst := some 47, op := Op.move (Operand.tmp 6), type := 3, pos := "ref.go:103", after := #[], guard := none } : Oper)) (v := ?hv2) rfl (by kernel_rfl) (by kernel_rfl) (by kernel_rfl) (fun _ _ _ h => h) (Or.inl ⟨by rfl, ?hy2⟩) (by assumption) ?hr2
          case hy2 => (intro w hSw; (try dsimp only at hSw); go_simp; (try with_reducible rfl))
          try simp only [Act.put, List.setIfInBounds_toArray, List.set_cons_zero, List.set_cons_succ]
          refine wpAnyH_take (i := 2) (oi := ({ dst := some 48, op := Op.slice 9 (Operand.tmp 46) (some (Operand.const (Value.int IntKind.i64 1))) (some (Operand.tmp 47)) none, type := 9, pos := "ref.go:103", after := #[{ on := 0, ground := Ground.data }, { on := 1, ground := Ground.data }], guard := none } : Oper)) (v := .string nw) rfl (by kernel_rfl) (by kernel_rfl) (by kernel_rfl) (fun _ _ _ h => h) (Or.inl ⟨by rfl, fun w0 hw0 => by go_simp⟩) (by assumption) ?_
          try simp only [Act.put, List.setIfInBounds_toArray, List.set_cons_zero, List.set_cons_succ]
          refine wpAnyH_take (i := 3) (oi := ({ dst := some 49, op := Op.move (Operand.tmp 7), type := 9, pos := "ref.go:103", after := #[], guard := none } : Oper)) (v := ?hv3) rfl (by kernel_rfl) (by kernel_rfl) (by kernel_rfl) (fun _ _ _ h => h) (Or.inl ⟨by rfl, ?hy3⟩) (by assumption) ?hr3
          case hy3 => (intro w hSw; (try dsimp only at hSw); go_simp; (try with_reducible rfl))
          try simp only [Act.put, List.setIfInBounds_toArray, List.set_cons_zero, List.set_cons_succ]
          refine wpAnyH_take (i := 4) (oi := ({ dst := some 50, op := Op.move (Operand.tmp 0), type := 9, pos := "ref.go:103", after := #[], guard := none } : Oper)) (v := ?hv4) rfl (by kernel_rfl) (by kernel_rfl) (by kernel_rfl) (fun _ _ _ h => h) (Or.inl ⟨by rfl, ?hy4⟩) (by assumption) ?hr4
          case hy4 => (intro w hSw; (try dsimp only at hSw); go_simp; (try with_reducible rfl))
          try simp only [Act.put, List.setIfInBounds_toArray, List.set_cons_zero, List.set_cons_succ]
          refine wpAnyH_ready (rs := [5]) (by kernel_rfl) (by simp) ?_
          refine AllReadyH.cons (o := ({ dst := some 51, op := Op.call { callee := Callee.value (Operand.func 22), args := #[Operand.tmp 50], argTypes := #[9] }, type := 9, pos := "ref.go:103", after := #[{ on := 4, ground := Ground.data }], guard := none } : Oper)) rfl (fun KK hKK => ?_) AllReadyH.nil
          go_simp
          (with_reducible refine (SV.out _).mono ?_)
          rintro e0 y1 ⟨rfl, hb⟩
          have RB1 := Lib.hid (RB0.out.trans (hb.mono RB0.out.size))
          clear hb
          refine hKK.out _ _ (RB1.out) (fun hH1 => ?_)
          clear hKK KK
          try simp only [Act.put, List.setIfInBounds_toArray, List.set_cons_zero, List.set_cons_succ]
          refine wpAnyH_ready (rs := [6]) (by kernel_rfl) (by simp) ?_
          refine AllReadyH.cons (o := ({ dst := some 52, op := Op.call { callee := Callee.value (Operand.func 11), args := #[Operand.tmp 48, Operand.tmp 49, Operand.tmp 51], argTypes := #[9, 9, 9] }, type := 26, pos := "ref.go:103", after := #[{ on := 2, ground := Ground.data }, { on := 3, ground := Ground.data }, { on := 5, ground := Ground.data }, { on := 5, ground := Ground.chain }], guard := none } : Oper)) rfl (fun KK hKK => ?_) AllReadyH.nil
          go_simp
          (with_reducible refine (US.out _).mono ?_)
          rintro e0 y2 ⟨rfl, hb⟩
          have RB2 := Lib.hid (RB1.out.trans (hb.mono RB1.out.size))
          clear hb
          refine hKK.out _ _ (RB2.out) (fun hH2 => ?_)
          clear hKK KK
          try simp only [Act.put, List.setIfInBounds_toArray, List.set_cons_zero, List.set_cons_succ]
          refine wpAnyH_take (i := 7) (oi := ({ dst := some 45, op := Op.move (Operand.tmp 52), type := 26, pos := "ref.go:103", after := #[{ on := 6, ground := Ground.data }], guard := none } : Oper)) (v := ?hv5) rfl (by kernel_rfl) (by kernel_rfl) (by kernel_rfl) (fun _ _ _ h => h) (Or.inl ⟨by rfl, ?hy5⟩) (by assumption) ?hr5
          case hy5 => (intro w hSw; (try dsimp only at hSw); go_simp; (try with_reducible rfl))
          try simp only [Act.put, List.setIfInBounds_toArray, List.set_cons_zero, List.set_cons_succ]
          refine wpAnyH_take (i := 8) (oi := ({ dst := some 53, op := Op.extract (Operand.tmp 45) 0, type := 9, pos := "ref.go:103", after := #[{ on := 7, ground := Ground.data }], guard := none } : Oper)) (v := ?hv6) rfl (by kernel_rfl) (by kernel_rfl) (by kernel_rfl) (fun _ _ _ h => h) (Or.inl ⟨by rfl, ?hy6⟩) (by assumption) ?hr6
          case hy6 => (intro w hSw; (try dsimp only at hSw); go_simp; (try with_reducible rfl))
          try simp only [Act.put, List.setIfInBounds_toArray, List.set_cons_zero, List.set_cons_succ]
          refine wpAnyH_take (i := 9) (oi := ({ dst := some 54, op := Op.extract (Operand.tmp 45) 1, type := 25, pos := "ref.go:103", after := #[{ on := 7, ground := Ground.data }, { on := 10, ground := Ground.gcOnly Departure.lateStores }], guard := none } : Oper)) (v := ?hv7) rfl (by kernel_rfl) (by kernel_rfl) (by kernel_rfl) (fun _ _ _ h => h) (Or.inl ⟨by rfl, ?hy7⟩) (by assumption) ?hr7
          case hy7 => (intro w hSw; (try dsimp only at hSw); go_simp; (try with_reducible rfl))
          try simp only [Act.put, List.setIfInBounds_toArray, List.set_cons_zero, List.set_cons_succ]
          refine wpAnyH_take (i := 10) (oi := ({ dst := some 9, op := Op.assign (Operand.tmp 53), type := 9, pos := "ref.go:103", after := #[{ on := 8, ground := Ground.data }, { on := 6, ground := Ground.chain }, { on := 0, ground := Ground.phase }, { on := 1, ground := Ground.phase }, { on := 2, ground := Ground.phase }, { on := 3, ground := Ground.phase }, { on := 4, ground := Ground.phase }, { on := 5, ground := Ground.phase }, { on := 6, ground := Ground.phase }, { on := 7, ground := Ground.phase }, { on := 8, ground := Ground.phase }, { on := 9, ground := Ground.textOnly Departure.lateStores }], guard := none } : Oper)) (v := ?hv8) rfl (by kernel_rfl) (by kernel_rfl) (by kernel_rfl) (fun _ _ _ h => h) (Or.inl ⟨by rfl, ?hy8⟩) (by assumption) ?hr8
          case hy8 => (intro w hSw; (try dsimp only at hSw); go_simp; (try with_reducible rfl))
          try simp only [Act.put, List.setIfInBounds_toArray, List.set_cons_zero, List.set_cons_succ]
          refine wpAnyH_take (i := 11) (oi := ({ dst := some 10, op := Op.assign (Operand.tmp 54), type := 25, pos := "ref.go:103", after := #[{ on := 9, ground := Ground.data }, { on := 10, ground := Ground.chain }, { on := 0, ground := Ground.phase }, { on := 1, ground := Ground.phase }, { on := 2, ground := Ground.phase }, { on := 3, ground := Ground.phase }, { on := 4, ground := Ground.phase }, { on := 5, ground := Ground.phase }, { on := 6, ground := Ground.phase }, { on := 7, ground := Ground.phase }, { on := 8, ground := Ground.phase }, { on := 9, ground := Ground.phase }, { on := 10, ground := Ground.phase }], guard := none } : Oper)) (v := ?hv9) rfl (by kernel_rfl) (by kernel_rfl) (by kernel_rfl) (fun _ _ _ h => h) (Or.inl ⟨by rfl, ?hy9⟩) (by assumption) ?hr9
          case hy9 => (intro w hSw; (try dsimp only at hSw); go_simp; (try with_reducible rfl))
          try simp only [Act.put, List.setIfInBounds_toArray, List.set_cons_zero, List.set_cons_succ]
          refine wpAnyH_done (by kernel_rfl) ?_ _
          have RBx := RB2
          clear RB2
          cases ok
          · have hBd := HBad.out (by cases hg : good L; rfl; exact absurd hg (fun hg => by have := (GY2.out hg).1; cases this))
            have HBd := Lib.hid hBd
            clear hBd
            go_wp2
            go_ret3
            exact ⟨ret_ssi HBd.out.1.symm HBd.out.2.1.symm HBd.out.2.2.symm, B9.out.trans (RBx.out.mono B9.out.size)⟩
          by_cases hE : EE = 0
          · by_cases hS : GG = s
            · have hg := GO2.out rfl hE hS
              obtain ⟨_, hn, _, _⟩ := GY2.out hg
              have HGd := Lib.hid (HGood.out hg)
              have HNm := Lib.hid hn
              have hsb : (s.toList == s.toList) = true := beq_self_eq_true _
              have hEb : (EE != 0) = false := by rw [hE]; rfl
              have hSb : (GG.toList == s.toList) = true := by rw [hS]; exact hsb
              clear hg hn hE hS hEE hGG
              go_wp2
              go_ret3
              exact ⟨ret_ssi HGd.out.1.symm (by rw [HGd.out.2.1]; exact HNm.out) HGd.out.2.2.symm, B9.out.trans (RBx.out.mono B9.out.size)⟩
            · have hBd := HBad.out (by cases hg : good L; rfl; exact absurd hg (fun hg => by obtain ⟨_, hn, _, h4⟩ := GY2.out hg; rw [← hn] at h4; exact hS (hGG.symm.trans h4)))
              have HBd := Lib.hid hBd
              clear hBd
              have hSb : (GG.toList == s.toList) = false := by rw [beq_eq_false_iff_ne]; intro e; rw [Lib.toList_data, Lib.toList_data] at e; exact hS (ByteArray.ext (Array.ext' e))
              have hEb : (EE != 0) = false := by rw [hE]; rfl
              clear hE hS hEE hGG
              go_wp2
              go_ret3
              exact ⟨ret_ssi HBd.out.1.symm HBd.out.2.1.symm HBd.out.2.2.symm, B9.out.trans (RBx.out.mono B9.out.size)⟩
          · have hBd := HBad.out (by cases hg : good L; rfl; exact absurd hg (fun hg => by obtain ⟨_, hn, h3, _⟩ := GY2.out hg; rw [← hn] at h3; exact hE (hEE.symm.trans h3)))
            have HBd := Lib.hid hBd
            clear hBd
            have hEb : (EE != 0) = true := by simpa using hE
            clear hE hEE hGG
            go_wp2
            go_ret3
            exact ⟨ret_ssi HBd.out.1.symm HBd.out.2.1.symm HBd.out.2.2.symm, B9.out.trans (RBx.out.mono B9.out.size)⟩
        · have HB := HBad.out (by unfold good; rw [decide_eq_false (by rintro ⟨h, _⟩; rw [HG0.out] at h; rw [h] at hc0; cases hc0)]; rfl)
          have HB2 := Lib.hid HB
          clear HB
          go_wp2
          go_ret3
          exact ⟨ret_ssi HB2.out.1.symm HB2.out.2.1.symm HB2.out.2.2.symm, Below.refl _ _⟩
      · have HB := HBad.out (by unfold good; rw [decide_eq_false (by rintro ⟨_, h⟩; rw [HJ.out] at h; exact hjs h)]; rfl)
        have HB2 := Lib.hid HB
        have hkz : (L.size : Int) ≤ (k : Int) := by omega
        clear HB
        cases hc0 : ((L[0].toNat : Int) != 95)
        all_goals
          go_wp2
          go_ret3
          exact ⟨ret_ssi HB2.out.1.symm HB2.out.2.1.symm HB2.out.2.2.symm, Below.refl _ _⟩
end Go.Proofs.Ytkcceobncjoodaa
