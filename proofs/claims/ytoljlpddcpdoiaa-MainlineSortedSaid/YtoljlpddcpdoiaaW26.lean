/- The mainline: the walk of the statement Sorted. Conditions: the statement's own. -/
import Derived.Test.YtoljlpddcpdoiaaW24
import Derived.Test.YtoljlpddcpdoiaaW25
namespace Go.Proofs.Ytoljlpddcpdoiaa
open Go Go.RowKit Go.Maps
set_option linter.unusedVariables false
set_option linter.unusedSimpArgs false

/-- Two neighbors of the order. -/
theorem ord_nb (E : Nat → Me) (n : Nat) (ms : List Int) (n1 : Nat) (zs : List Int) (i : Nat) (h : i + 1 < (ordL E n ms n1 zs).length) : ∃ p q : Pl.Rc, (ordL E n ms n1 zs).getD i 0 = p.id ∧ (ordL E n ms n1 zs).getD (i + 1) 0 = q.id ∧ Pl.ltP p q ∧ plOf E n ms n1 p.id = some p ∧ plOf E n ms n1 q.id = some q := by
  unfold ordL at h ⊢
  rw [List.length_map] at h
  have hs : Pl.Srt (ordP E n ms n1 (Q.M.st zs)) := Pl.srtP_srt (ps_nodup (Q.M.srt_nodup (Q.M.srt_st zs)))
  have hm : ∀ p ∈ ordP E n ms n1 (Q.M.st zs), plOf E n ms n1 p.id = some p := by
    intro p hp
    have h1 := (Pl.srtP_perm _).mem_iff.1 hp
    unfold ps at h1
    obtain ⟨id, _, h2⟩ := List.mem_filterMap.1 h1
    rw [plOf_id h2]
    exact h2
  generalize ordP E n ms n1 (Q.M.st zs) = l at h hs hm
  refine ⟨l[i], l[i + 1], ?_, ?_, List.pairwise_iff_getElem.1 hs i (i + 1) (by omega) h (by omega), hm _ (List.getElem_mem _), hm _ (List.getElem_mem _)⟩
  · rw [List.getD_eq_getElem?_getD, List.getElem?_map, List.getElem?_eq_getElem (by omega)]; rfl
  · rw [List.getD_eq_getElem?_getD, List.getElem?_map, List.getElem?_eq_getElem h]; rfl
theorem ordL_congr {E : Nat → Me} {n : Nat} {ms : List Int} {n1 : Nat} {a b : List Int} (h : ∀ x, x ∈ a ↔ x ∈ b) : ordL E n ms n1 a = ordL E n ms n1 b := by
  unfold ordL
  rw [Q.M.st_congr h]
theorem st_known {E : Nat → Me} {n : Nat} {ms : List Int} {n1 : Nat} {zs kn : List Int} (h : ∀ x, x ∈ kn ↔ x ∈ zs ∧ known E n x = true) : Q.M.st (ordL E n ms n1 zs) = Q.M.st kn ∧ (ordL E n ms n1 zs).length = (Q.M.st kn).length := by
  have h1 : Q.M.st kn = (Q.M.st zs).filter (known E n) := by
    refine (Q.M.st_eq (List.Pairwise.filter _ (Q.M.srt_st zs)) (fun x => ?_)).symm
    rw [List.mem_filter, Q.M.mem_st, h]
  refine ⟨Q.M.st_congr (fun x => by rw [mem_ordL, h]), ?_⟩
  rw [h1]
  exact (ordL_perm E n ms n1 zs).length_eq
theorem own_apart {w : World} {v8 v9 v' : Value} {B n : Nat} {e : TypeId} {sz : Nat} {xs : List Value} (h8 : w.ownsRow B e sz v8 n xs) (h : v8.ownBlock ≠ v9.ownBlock) (ha : v'.ownBlock = v9.ownBlock ∨ v'.ownBlock = some w.heap.size) : v8.ownBlock ≠ v'.ownBlock := by
  rcases ha with e | e
  · rw [e]; exact h
  · rw [e]
    intro h1
    have := (h8.lt _ h1).2
    omega
theorem own_still {w w' : World} {v : Value} {B n : Nat} {e : TypeId} {sz : Nat} {xs : List Value} {row : Option Nat} (h : w.ownsRow B e sz v n xs) (hg : w.grownBy w' row) (hne : v.ownBlock ≠ row) : w'.ownsRow B e sz v n xs := h.kept hg (.inr hne)
theorem rev_succ (zs : List Int) {k : Nat} (h : k < zs.length) : zs.reverse.take (k + 1) = zs.reverse.take k ++ [zs.getD (zs.length - 1 - k) 0] := by
  rw [List.take_succ_eq_append_getElem (by rw [List.length_reverse]; exact h), List.getElem_reverse, List.getD_eq_getElem?_getD, List.getElem?_eq_getElem (by omega)]
  rfl
set_option maxRecDepth 100000 in
set_option maxHeartbeats 16000000 in
theorem sorted_walk (A : Option Addr) (n c : Nat) (E : Nat → Me) (A1 : Option Addr) (n1 c1 : Nat) (ms : List Int) (A2 : Option Addr) (n2 c2 : Nat) (zs : List Int) (w : World) (h : Evm w A n E) (h1 : Its w A1 n1 c1 ms) (h2 : Its w A2 n2 c2 zs) : Calls Try.prog 7 #[.slice A n c, .slice A1 n1 c1, .slice A2 n2 c2] w fun e w' => e = .returned (.bool true) ∧ Below w.heap.size w w' := by
  have HF := Lib.hid (few8 A n c E w h)
  unfold FewP at HF
  have hbig := h2.rws.big
  unfold maxLen at hbig
  by_cases hg : (30 : Int) < (n1 : Int)
  · clear h h1 h2
    go_enter Try.func7, Try.ntmps7
    go_wp2_with (first
      | (go_at_call 8; (with_reducible refine HF.out.mono ?_); rintro e w1 ⟨⟨r, rfl, hr⟩, hb⟩; have B1 := Lib.hid hb; have HR1 := Lib.hid (show FewI r n E from hr); clear hb hr; cases r)
      | (go_at_call 9; (with_reducible refine (lives9 _).mono ?_); rintro e wl ⟨rfl, hb⟩; have BL := Lib.hid (B1.out.trans (hb.mono B1.out.size)); clear hb)
      | go_in)
    · go_ret
      exact ⟨rfl, BL.out⟩
    · go_ret
      exact ⟨rfl, BL.out⟩
  · by_cases hg2 : (30 : Int) < (n2 : Int)
    · clear h h1 h2
      go_enter Try.func7, Try.ntmps7
      go_wp2_with (first
      | (go_at_call 8; (with_reducible refine HF.out.mono ?_); rintro e w1 ⟨⟨r, rfl, hr⟩, hb⟩; have B1 := Lib.hid hb; have HR1 := Lib.hid (show FewI r n E from hr); clear hb hr; cases r)
      | (go_at_call 9; (with_reducible refine (lives9 _).mono ?_); rintro e wl ⟨rfl, hb⟩; have BL := Lib.hid (B1.out.trans (hb.mono B1.out.size)); clear hb)
      | go_in)
      · go_ret
        exact ⟨rfl, BL.out⟩
      · go_ret
        exact ⟨rfl, BL.out⟩
    · have HN1 := Lib.hid (show n1 ≤ 900000 by omega)
      have HN2 := Lib.hid (show n2 ≤ 900000 by omega)
      have H := Lib.hid h
      have H2 := Lib.hid h2
      have HO := Lib.hid (fun (hn : n ≤ 900000) A3 n3 c3 zs3 (hn3 : n3 ≤ 900000) v (hb : Below w.heap.size w v) (hi : Its v A3 n3 c3 zs3) => order15 A n c E A1 n1 c1 ms A3 n3 c3 zs3 v (h.below hb) hn (h1.below hb) HN1.out hi hn3)
      have HCl := Lib.hid (fun (hn : n ≤ 900000) (p : Pl.Rc) (hp : plOf E n ms n1 p.id = some p) (hz : i64B p.id) v (hb : Below w.heap.size w v) => show Calls Try.prog 13 #[.slice A n c, .slice A1 n1 c1, .int .i64 p.id] v (fun e w' => e = .returned (.int .i64 p.cl0) ∧ Below v.heap.size v w') by
        obtain ⟨i, _, _, e⟩ := plOf_get hp
        have := closest13 A n c E A1 n1 c1 ms p.id v (h.below hb) hn (h1.below hb) HN1.out hz
        rw [show clo (wayL E n p.id) (rk ms) n1 = p.cl0 by rw [e]] at this
        exact this)
      have HG0 := Lib.hid (fun (hn : n ≤ 900000) x v (hb : Below w.heap.size w v) => get17 A n c E x v (h.below hb) hn)
      have HL := Lib.hid (ordL_len E n ms n1 zs)
      have HNb := Lib.hid (ord_nb E n ms n1 zs)
      have HWo := Lib.hid (fun z (hz : z ∈ ordL E n ms n1 zs) => h2.wf z (mem_ordL.1 hz).1)
      have HBk := Lib.hid (show ordL E n ms n1 zs.reverse = ordL E n ms n1 zs from ordL_congr (fun x => List.mem_reverse))
      have HKn := Lib.hid (show Q.M.st (ordL E n ms n1 zs) = Q.M.st (zs.reverse.filter (known E n)) ∧ (ordL E n ms n1 zs).length = (Q.M.st (zs.reverse.filter (known E n))).length from st_known (fun x => by rw [List.mem_filter, List.mem_reverse]))
      have HZl := Lib.hid h2.len
      have HWz := Lib.hid h2.wf
      obtain ⟨i1, hi1, hz3, hz4, hz5⟩ := info_parts info3
      have HI := Lib.hid (And.intro hi1 (And.intro hz3 (And.intro hz4 hz5)))
      unfold IntsP at HO
      unfold GetP at HG0
      have HOz := Lib.hid (fun (hn : n ≤ 900000) v hb hi => HO.out hn A2 n2 c2 zs HN2.out v hb hi)
      have HOb := Lib.hid (fun (hn : n ≤ 900000) A3 c3 v hb hi => HO.out hn A3 n2 c3 zs.reverse HN2.out v hb hi)
      rw [HBk.out] at HOb
      generalize ordL E n ms n1 zs = od at HOz HOb HL HNb HWo HKn
      clear h h1 h2 hi1 hz3 hz4 hz5 HO HBk
      go_enter Try.func7, Try.ntmps7
      go_wp2_with (first
        | (go_at_call 8; (with_reducible refine HF.out.mono ?_); rintro e w1 ⟨⟨r, rfl, hr⟩, hb⟩; have B1 := Lib.hid hb; have HR1 := Lib.hid (show FewI r n E from hr); clear hb hr; cases r)
        | (go_at_call 15; (with_reducible refine (HOz.out (by have := HR1.out.le; omega) _ B1.out (H2.out.below B1.out)).mono ?_); rintro e w2 ⟨A5, c5, rfl, hi, hb, _⟩; have I2 := Lib.hid hi; have B2 := Lib.hid (B1.out.trans (hb.mono B1.out.size)); clear hi hb)
        | (go_at_call 9; (with_reducible refine (lives9 _).mono ?_); rintro e wl ⟨rfl, hb⟩; have BL := Lib.hid (B1.out.trans (hb.mono B1.out.size)); clear hb)
        | go_in)
      · go_ret
        exact ⟨rfl, BL.out⟩
      · have hn14 := HR1.out.le
        have HG := Lib.hid (fun x v (hb : Below w.heap.size w v) => HG0.out (by omega) x v hb)
        have HCp0 := Lib.hid (HCl.out (by omega))
        have HOb1 := Lib.hid (HOb.out (by omega))
        clear HG0 HCl HOb HOz HF
        have O8 : Hid (((w2.alloc (.cells #[] 3)).alloc (.cells #[] 3)).ownsRow w2.heap.size 3 1 (.slice (some ⟨w2.heap.size, 0, none⟩) 0 0) 0 []) := Lib.hid ((World.ownsRow_made (base := w2.heap.size) (e := 3) (size := 1) w2 #[] 0 (Nat.le_refl _) (by decide) (by simp)).alloc _)
        have O9 : Hid (((w2.alloc (.cells #[] 3)).alloc (.cells #[] 3)).ownsRow w2.heap.size 3 1 (.slice (some ⟨w2.heap.size + 1, 0, none⟩) 0 0) 0 []) := Lib.hid (by
          have := World.ownsRow_made (base := w2.heap.size) (e := 3) (size := 1) (w2.alloc (.cells #[] 3)) #[] 0 (by simp) (by decide) (by simp)
          rw [World.size_alloc] at this
          exact this)
        have BR := Lib.hid (((Below.refl w2.heap.size w2).alloc (Nat.le_refl _) (.cells #[] 3)).alloc (by simp) (.cells #[] 3))
        go_loopg [8, 9, 10, 11, 12] n2 (fun gg s8 s9 s10 _ _ wr => ∃ (kk : Nat) (v8 v9 : Value), kk ≤ n2 ∧ n2 - kk ≤ gg ∧ v8 = s8 ∧ v9 = s9 ∧ s10 = .int .i64 ((n2 : Int) - 1 - (kk : Int)) ∧ Hid (wr.ownsRow w2.heap.size 3 1 v8 ((zs.reverse.take kk).filter (known E n)).length (((zs.reverse.take kk).filter (known E n)).map (Value.int .i64))) ∧ Hid (wr.ownsRow w2.heap.size 3 1 v9 kk ((zs.reverse.take kk).map (Value.int .i64))) ∧ Hid (v8.ownBlock ≠ v9.ownBlock) ∧ Hid (Below w2.heap.size w2 wr))
        case atStart => exact ⟨0, _, _, Nat.zero_le _, by omega, rfl, rfl, by simp, O8, O9, Lib.hid (by simp [Value.ownBlock]), BR⟩
        case round =>
          obtain ⟨kk, v8, v9, hkk, hg, rfl, rfl, rfl, P8, P9, AP, BW⟩ := hrel
          have hfl : ((zs.reverse.take kk).filter (known E n)).length ≤ kk := by
            have h5 := List.length_filter_le (known E n) (zs.reverse.take kk)
            rw [List.length_take] at h5
            omega
          by_cases hlt : kk < n2
          · have hltz : (0 : Int) ≤ (n2 : Int) - 1 - (kk : Int) := by omega
            have hltz2 : (n2 : Int) - 1 - (kk : Int) < (n2 : Int) := by omega
            obtain ⟨m, hm⟩ : ∃ m : Nat, n2 - 1 - kk = m := ⟨_, rfl⟩
            have hmz : (n2 : Int) - 1 - (kk : Int) = (m : Int) := by omega
            have hm2 : (m : Int) < (n2 : Int) := by omega
            have hm0 : (0 : Int) ≤ (m : Int) := by omega
            obtain ⟨b2, off2, eA, hb2, q0, hwf⟩ := (H2.out.below B2.out).at_ (show m < n2 by omega)
            have HQz := Lib.hid (fun v (hb : Below w2.heap.size w2 v) => (hb.cell (p := ⟨b2, off2 + m, none⟩) hb2).trans q0)
            have HRs := Lib.hid (rev_succ zs (k := kk) (by rw [HZl.out]; exact hlt))
            rw [HZl.out, hm] at HRs
            have HGz := Lib.hid (fun v (hb : Below w2.heap.size w2 v) => HG.out (zs.getD m 0) v (B2.out.trans (hb.mono B2.out.size)))
            have q1 := HQz.out _ BW.out
            generalize zs.getD m 0 = z at q0 q1 HQz HRs HGz hwf
            generalize zs.reverse.take kk = bk at HRs P8 P9 hfl
            rw [hmz]
            have HMz := Lib.hid hmz
            clear q0 hmz hltz hltz2
            subst eA
            cases hp : plc E n z with
            | none =>
              have hkz : known E n z = false := by unfold known; rw [hp]; rfl
              have HFl := Lib.hid (show (bk ++ [z]).filter (known E n) = bk.filter (known E n) by rw [List.filter_append, List.filter_cons, hkz]; simp)
              rw [hp] at HGz
              clear hp hkz
              go_wp2_with (first
                | (at_builtin; go_loud (refine wpList_append_any _ rfl _ _ 26 rfl w2.heap.size 3 i1 _ 1 8 Try.underlying26 HI.out.1 HI.out.2.1 HI.out.2.2.1 HI.out.2.2.2 rfl (by decide) v9 kk (bk.map (Value.int .i64)) rfl (P9.out.alloc _) _ 1 1 [.int .i64 z] rfl (int_src wr z) (by unfold maxLen; omega) (by omega) (BW.out.alloc BW.out.size _).size ?_); intro va wa hgr; go_loud (have BA := Lib.hid (hgr.below (BW.out.alloc BW.out.size _) (P9.out.alloc _)); have P9a := Lib.hid hgr.own; have P8a := Lib.hid (own_still (P8.out.alloc _) hgr.grow AP.out); have APa := Lib.hid (own_apart (w := (wr.alloc (.cells #[.int .i64 z] 3))) (P8.out.alloc _) AP.out hgr.at_); have q2 := HQz.out _ BA.out; clear hgr))
                | (go_at_call 17; (with_reducible refine (HGz.out _ BA.out).mono ?_); rintro e wc ⟨cs1, rfl, hl', ho', hq', hb⟩; have Lcs1 := Lib.hid hl'; have Ocs1 := Lib.hid ho'; have Qcs1 := Lib.hid hq'; have Dwc := Lib.hid hb; have Bwc := Lib.hid (BA.out.trans (hb.mono BA.out.size)); clear hb hl' ho' hq')
                | (refine store_mid_as rfl 44 _ _ rfl wc.heap.size 0 cs1.toArray rfl rfl (show World.there (wc.alloc (.cells #[.int .i64 0, .string ⟨#[]⟩, .string ⟨#[]⟩, .int .i64 0, .bool false, .string ⟨#[]⟩, .int .i64 0, .int .i64 0, .slice none 0 0, .slice none 0 0, .string ⟨#[]⟩, .int .i64 0, .int .i64 0, .bool false, .string ⟨#[]⟩, .slice none 0 0, .slice none 0 0, .slice none 0 0, .slice none 0 0, .int .i64 0, .int .i64 0, .int .i64 0, .int .i64 0, .int .i64 0, .int .i64 0, .int .i64 0, .int .i64 0, .string ⟨#[]⟩, .int .i64 0] 44)) wc.heap.size 0 _ from (show Blk (wc.alloc (.cells #[.int .i64 0, .string ⟨#[]⟩, .string ⟨#[]⟩, .int .i64 0, .bool false, .string ⟨#[]⟩, .int .i64 0, .int .i64 0, .slice none 0 0, .slice none 0 0, .string ⟨#[]⟩, .int .i64 0, .int .i64 0, .bool false, .string ⟨#[]⟩, .slice none 0 0, .slice none 0 0, .slice none 0 0, .slice none 0 0, .int .i64 0, .int .i64 0, .int .i64 0, .int .i64 0, .int .i64 0, .int .i64 0, .int .i64 0, .int .i64 0, .string ⟨#[]⟩, .int .i64 0] 44)) wc.heap.size zE 44 from blk_new wc zE 44).there (by rw [List.size_toArray, Lcs1.out]; decide)) (size44a Lcs1.out) (all_arr Ocs1.out) ?_; intro wd e3; have Bwd := Lib.hid (show Below w2.heap.size w2 wd by rw [e3]; exact below_setRow (Bwc.out.alloc Bwc.out.size _) Bwc.out.size _ _); have Xwd := Lib.hid (show Blk wd wc.heap.size cs1 44 by rw [e3]; exact (show Blk (wc.alloc (.cells #[.int .i64 0, .string ⟨#[]⟩, .string ⟨#[]⟩, .int .i64 0, .bool false, .string ⟨#[]⟩, .int .i64 0, .int .i64 0, .slice none 0 0, .slice none 0 0, .string ⟨#[]⟩, .int .i64 0, .int .i64 0, .bool false, .string ⟨#[]⟩, .slice none 0 0, .slice none 0 0, .slice none 0 0, .slice none 0 0, .int .i64 0, .int .i64 0, .int .i64 0, .int .i64 0, .int .i64 0, .int .i64 0, .int .i64 0, .int .i64 0, .string ⟨#[]⟩, .int .i64 0] 44)) wc.heap.size zE 44 from blk_new wc zE 44).setAll cs1 Lcs1.out); have Ewd := Lib.hid (show Below wc.heap.size wc wd by rw [e3]; exact below_setRow ((Below.refl _ _).alloc (Nat.le_refl _) _) (Nat.le_refl _) _ _);  clear e3)
                | go_in)
              go_roundg (n2 - (kk + 1))
              case measure => omega
              case rel => exact ⟨kk + 1, _, _, by omega, by omega, rfl, rfl, by go_num, Lib.hid (by rw [HRs.out, HFl.out]; exact own_keep P8a.out (fun b _ hl => (Ewd.out.block b (Nat.lt_of_lt_of_le hl Dwc.out.size)).trans (Dwc.out.block b hl))), Lib.hid (by rw [HRs.out, List.map_append]; exact own_keep P9a.out (fun b _ hl => (Ewd.out.block b (Nat.lt_of_lt_of_le hl Dwc.out.size)).trans (Dwc.out.block b hl))), APa, Bwd⟩
            | some i =>
              have hkz : known E n z = true := by unfold known; rw [hp]; rfl
              have HFl := Lib.hid (show (bk ++ [z]).filter (known E n) = bk.filter (known E n) ++ [z] by rw [List.filter_append, List.filter_cons, hkz]; simp)
              rw [hp] at HGz
              clear hp hkz
              go_wp2_with (first
                | (at_builtin; refine wpList_append_any _ rfl _ _ 26 rfl w2.heap.size 3 i1 _ 1 8 Try.underlying26 HI.out.1 HI.out.2.1 HI.out.2.2.1 HI.out.2.2.2 rfl (by decide) v8 (bk.filter (known E n)).length ((bk.filter (known E n)).map (Value.int .i64)) rfl (P8d.out.alloc _) _ 1 1 [.int .i64 z] rfl (int_src wd z) (by unfold maxLen; omega) (by omega) (Bwd.out.alloc Bwd.out.size _).size ?_; intro ve we hgr; have BE := Lib.hid (hgr.below (Bwd.out.alloc Bwd.out.size _) (P8d.out.alloc _)); have P8e := Lib.hid hgr.own; have P9e := Lib.hid (own_still (P9d.out.alloc _) hgr.grow (fun h => APa.out h.symm)); have APe := Lib.hid (fun h => own_apart (w := (wd.alloc (.cells #[.int .i64 z] 3))) (P9d.out.alloc _) (fun h => APa.out h.symm) hgr.at_ (Eq.symm h)); clear hgr)
                | (at_builtin; go_loud (refine wpList_append_any _ rfl _ _ 26 rfl w2.heap.size 3 i1 _ 1 8 Try.underlying26 HI.out.1 HI.out.2.1 HI.out.2.2.1 HI.out.2.2.2 rfl (by decide) v9 kk (bk.map (Value.int .i64)) rfl (P9.out.alloc _) _ 1 1 [.int .i64 z] rfl (int_src wr z) (by unfold maxLen; omega) (by omega) (BW.out.alloc BW.out.size _).size ?_); intro va wa hgr; go_loud (have BA := Lib.hid (hgr.below (BW.out.alloc BW.out.size _) (P9.out.alloc _)); have P9a := Lib.hid hgr.own; have P8a := Lib.hid (own_still (P8.out.alloc _) hgr.grow AP.out); have APa := Lib.hid (own_apart (w := (wr.alloc (.cells #[.int .i64 z] 3))) (P8.out.alloc _) AP.out hgr.at_); have q2 := HQz.out _ BA.out; clear hgr))
                | (go_at_call 17; (with_reducible refine (HGz.out _ BA.out).mono ?_); rintro e wc ⟨cs1, rfl, hl', ho', hq', hb⟩; have Lcs1 := Lib.hid hl'; have Ocs1 := Lib.hid ho'; have Qcs1 := Lib.hid hq'; have Dwc := Lib.hid hb; have Bwc := Lib.hid (BA.out.trans (hb.mono BA.out.size)); clear hb hl' ho' hq')
                | (refine store_mid_as rfl 44 _ _ rfl wc.heap.size 0 cs1.toArray rfl rfl (show World.there (wc.alloc (.cells #[.int .i64 0, .string ⟨#[]⟩, .string ⟨#[]⟩, .int .i64 0, .bool false, .string ⟨#[]⟩, .int .i64 0, .int .i64 0, .slice none 0 0, .slice none 0 0, .string ⟨#[]⟩, .int .i64 0, .int .i64 0, .bool false, .string ⟨#[]⟩, .slice none 0 0, .slice none 0 0, .slice none 0 0, .slice none 0 0, .int .i64 0, .int .i64 0, .int .i64 0, .int .i64 0, .int .i64 0, .int .i64 0, .int .i64 0, .int .i64 0, .string ⟨#[]⟩, .int .i64 0] 44)) wc.heap.size 0 _ from (show Blk (wc.alloc (.cells #[.int .i64 0, .string ⟨#[]⟩, .string ⟨#[]⟩, .int .i64 0, .bool false, .string ⟨#[]⟩, .int .i64 0, .int .i64 0, .slice none 0 0, .slice none 0 0, .string ⟨#[]⟩, .int .i64 0, .int .i64 0, .bool false, .string ⟨#[]⟩, .slice none 0 0, .slice none 0 0, .slice none 0 0, .slice none 0 0, .int .i64 0, .int .i64 0, .int .i64 0, .int .i64 0, .int .i64 0, .int .i64 0, .int .i64 0, .int .i64 0, .string ⟨#[]⟩, .int .i64 0] 44)) wc.heap.size zE 44 from blk_new wc zE 44).there (by rw [List.size_toArray, Lcs1.out]; decide)) (size44a Lcs1.out) (all_arr Ocs1.out) ?_; intro wd e3; have Bwd := Lib.hid (show Below w2.heap.size w2 wd by rw [e3]; exact below_setRow (Bwc.out.alloc Bwc.out.size _) Bwc.out.size _ _); have Xwd := Lib.hid (show Blk wd wc.heap.size cs1 44 by rw [e3]; exact (show Blk (wc.alloc (.cells #[.int .i64 0, .string ⟨#[]⟩, .string ⟨#[]⟩, .int .i64 0, .bool false, .string ⟨#[]⟩, .int .i64 0, .int .i64 0, .slice none 0 0, .slice none 0 0, .string ⟨#[]⟩, .int .i64 0, .int .i64 0, .bool false, .string ⟨#[]⟩, .slice none 0 0, .slice none 0 0, .slice none 0 0, .slice none 0 0, .int .i64 0, .int .i64 0, .int .i64 0, .int .i64 0, .int .i64 0, .int .i64 0, .int .i64 0, .int .i64 0, .string ⟨#[]⟩, .int .i64 0] 44)) wc.heap.size zE 44 from blk_new wc zE 44).setAll cs1 Lcs1.out); have Ewd := Lib.hid (show Below wc.heap.size wc wd by rw [e3]; exact below_setRow ((Below.refl _ _).alloc (Nat.le_refl _) _) (Nat.le_refl _) _ _); have q3 := HQz.out _ Bwd.out; have P8d := Lib.hid (own_keep P8a.out (fun b _ hl => (Ewd.out.block b (Nat.lt_of_lt_of_le hl Dwc.out.size)).trans (Dwc.out.block b hl))); have P9d := Lib.hid (own_keep P9a.out (fun b _ hl => (Ewd.out.block b (Nat.lt_of_lt_of_le hl Dwc.out.size)).trans (Dwc.out.block b hl))); clear e3)
                | go_in)
              go_roundg (n2 - (kk + 1))
              case measure => omega
              case rel => exact ⟨kk + 1, _, _, by omega, by omega, rfl, rfl, by go_num, Lib.hid (by rw [HRs.out, HFl.out, List.length_append, List.map_append]; exact P8e.out), Lib.hid (by rw [HRs.out, List.map_append]; exact P9e.out), APe, BE⟩
          · obtain ⟨x, hx⟩ : ∃ x, (n2 : Int) - 1 - (kk : Int) = x := ⟨_, rfl⟩
            have hxz : ¬ (0 : Int) ≤ x := by omega
            rw [hx]
            obtain rfl : kk = n2 := by omega
            have hfull : zs.reverse.take kk = zs.reverse := List.take_of_length_le (by rw [List.length_reverse, HZl.out]; exact Nat.le_refl _)
            rw [hfull] at P8 P9 hfl
            obtain ⟨A8, c8, rfl, h8i, _⟩ := its_own P8.out rfl (by omega) (fun z hz => HWz.out z (List.mem_reverse.1 (List.mem_filter.1 hz).1))
            obtain ⟨A9, c9, rfl, h9i, _⟩ := its_own P9.out (by rw [List.length_reverse]; exact HZl.out) (by omega) (fun z hz => HWz.out z (List.mem_reverse.1 hz))
            have hol := HL.out
            have hzl := HZl.out
            have HWk : ∀ z ∈ Q.M.st (zs.reverse.filter (known E n)), i64B z := fun z hz => HWz.out z (List.mem_reverse.1 (List.mem_filter.1 ((Q.M.mem_st _ _).1 hz)).1)
            have HSk := Lib.hid (fun v (hb : Below wr.heap.size wr v) => rsorted19 A8 _ c8 (zs.reverse.filter (known E n)) v (h8i.below hb) (by omega) HWk)
            have HSo := Lib.hid (fun v (hb : Below wr.heap.size wr v) => rsorted19 A5 _ c5 od v (I2.out.below (BW.out.trans (hb.mono BW.out.size))) (by omega) (fun z hz => HWo.out z ((Q.M.mem_st _ _).1 hz)))
            have HOk := Lib.hid (fun v (hb : Below wr.heap.size wr v) => HOb1.out A9 c9 v (B2.out.trans ((BW.out.trans (hb.mono BW.out.size)).mono B2.out.size)) (h9i.below hb))
            have I2r := Lib.hid (I2.out.below BW.out)
            rw [HKn.out.1] at HSo
            have hkl := HKn.out.2
            have hkn30 : (zs.reverse.filter (known E n)).length ≤ 30 := by omega
            have hol30 : od.length ≤ 30 := by omega
            generalize zs.reverse.filter (known E n) = kn at hkn30 HSo HSk hkl hfl
            have hsl : (Q.M.st kn).length ≤ 30 := by have := Q.M.len_st kn; omega
            generalize Q.M.st kn = so at HSo HSk hkl hsl
            have hne : ((od.length : Int) != (so.length : Int)) = false := by rw [hkl]; simp
            have C0 := Lib.hid (Below.refl wr.heap.size wr)
            clear hkl hzl hol
            clear P8 P9 AP h8i h9i hfull HWk hx HKn
            go_wp2_with (first
              | (go_at_call 10; (with_reducible refine (same10 _ _ _ _ _ od _ J5.out (I2r.out.below C5.out) (by omega)).mono ?_); rintro e w6 ⟨rfl, hb⟩; have C6 := Lib.hid (C5.out.trans (hb.mono C5.out.size)); clear hb)
              | (go_at_call 15; (with_reducible refine (HOk.out _ C4.out).mono ?_); rintro e w5 ⟨Aw5, cw5, rfl, hi, hb, _⟩; have J5 := Lib.hid hi; have C5 := Lib.hid (C4.out.trans (hb.mono C4.out.size)); clear hi hb)
              | (go_at_call 19; (with_reducible refine (HSk.out _ C3.out).mono ?_); rintro e w8 ⟨Aw8, cw8, rfl, hi, hb⟩; have J3 := Lib.hid hi; have Cw8 := Lib.hid hb; have C4 := Lib.hid (C3.out.trans (hb.mono C3.out.size)); clear hi hb)
              | (go_at_call 10; (with_reducible refine (same10 _ _ _ _ _ so _ (J1.out.below Cw7.out) J2.out (by omega)).mono ?_); rintro e w9 ⟨rfl, hb⟩; have C3 := Lib.hid (C2.out.trans (hb.mono C2.out.size)); clear hb)
              | (go_at_call 19; (with_reducible refine (HSk.out _ C1.out).mono ?_); rintro e w7 ⟨Aw7, cw7, rfl, hi, hb⟩; have J2 := Lib.hid hi; have Cw7 := Lib.hid hb; have C2 := Lib.hid (C1.out.trans (hb.mono C1.out.size)); clear hi hb)
              | (go_at_call 19; (with_reducible refine (HSo.out _ C0.out).mono ?_); rintro e w3 ⟨Aw3, cw3, rfl, hi, hb⟩; have J1 := Lib.hid hi; have Cw3 := Lib.hid hb; have C1 := Lib.hid (C0.out.trans (hb.mono C0.out.size)); clear hi hb)
              | go_in)
            have B6 := Lib.hid (BW.out.trans (C6.out.mono BW.out.size))
            have BX0 := Lib.hid (Below.refl w6.heap.size w6)
            clear C0 HSk HSo HOk I2r J1 J2 J3 J5
            go_loopg [13, 14, 15, 16, 17, 18, 19] od.length (fun gg s13 _ _ _ _ _ _ wr => ∃ kk : Nat, 1 ≤ kk ∧ kk ≤ od.length + 1 ∧ od.length - kk ≤ gg ∧ s13 = .int .i64 (kk : Int) ∧ Hid (Below w6.heap.size w6 wr))
            case atStart => exact ⟨1, by omega, by omega, by omega, rfl, BX0⟩
            case round =>
              obtain ⟨k3, hk31, hk32, hg3, rfl, BX⟩ := hrel
              by_cases hl3 : k3 < od.length
              · obtain ⟨i, rfl⟩ : ∃ i, k3 = i + 1 := ⟨k3 - 1, by omega⟩
                have hk1 : (1 : Int) ≤ ((i + 1 : Nat) : Int) := by omega
                have hk2 : ((i + 1 : Nat) : Int) - 1 < (od.length : Int) := by omega
                have hk3 : ((i + 1 : Nat) : Int) < (od.length : Int) := by omega
                have hk5 : (0 : Int) ≤ (i : Int) + 1 := by omega
                have hk6 : (i : Int) + 1 < (od.length : Int) := by omega
                have hk7 : (i : Int) < (od.length : Int) := by omega
                have hk8 : (0 : Int) ≤ (i : Int) := by omega
                have hwr : IntKind.i64.wrap (i : Int) = (i : Int) := by rw [IntKind.wrap_i64]; omega
                obtain ⟨p, q, ep, eq, hltp, hpp, hqq⟩ := HNb.out i hl3
                obtain ⟨jp, hjp, hpjp, ep2⟩ := plOf_get hpp
                obtain ⟨jq, hjq, hqjq, eq2⟩ := plOf_get hqq
                have hwp : i64B p.id := by rw [← ep]; exact HWo.out _ (getD_memI (by omega))
                have hwq : i64B q.id := by rw [← eq]; exact HWo.out _ (getD_memI hl3)
                obtain ⟨b5, off5, eA5, hb5, q0, _⟩ := I2.out.at_ (show i < od.length by omega)
                obtain ⟨b6, off6, eA6, hb6, q1, _⟩ := I2.out.at_ hl3
                rw [eA5] at eA6
                simp only [Option.some.injEq, Addr.mk.injEq, and_true] at eA6
                obtain ⟨rfl, rfl⟩ := eA6
                rw [ep] at q0
                rw [eq] at q1
                have HQp := Lib.hid (fun v (hb : Below w6.heap.size w6 v) => ((B6.out.trans (hb.mono B6.out.size)).cell (p := ⟨b5, off5 + i, none⟩) hb5).trans q0)
                have HQq := Lib.hid (fun v (hb : Below w6.heap.size w6 v) => ((B6.out.trans (hb.mono B6.out.size)).cell (p := ⟨b5, off5 + (i + 1), none⟩) hb5).trans q1)
                have HCp := Lib.hid (fun v (hb : Below w6.heap.size w6 v) => HCp0.out p hpp hwp v (B2.out.trans ((B6.out.trans (hb.mono B6.out.size)).mono B2.out.size)))
                have HCq := Lib.hid (fun v (hb : Below w6.heap.size w6 v) => HCp0.out q hqq hwq v (B2.out.trans ((B6.out.trans (hb.mono B6.out.size)).mono B2.out.size)))
                have HGp := Lib.hid (fun v (hb : Below w6.heap.size w6 v) => HG.out p.id v (B2.out.trans ((B6.out.trans (hb.mono B6.out.size)).mono B2.out.size)))
                have HGq := Lib.hid (fun v (hb : Below w6.heap.size w6 v) => HG.out q.id v (B2.out.trans ((B6.out.trans (hb.mono B6.out.size)).mono B2.out.size)))
                rw [hpjp] at HGp
                rw [hqjq] at HGq
                have HFp := Lib.hid (show (E jp).cs[6]? = some (.int .i64 p.tm) by rw [(H.out.fit jp hjp).c6, show p.tm = (E jp).tm from congrArg Pl.Rc.tm ep2])
                have HFq := Lib.hid (show (E jq).cs[6]? = some (.int .i64 q.tm) by rw [(H.out.fit jq hjq).c6, show q.tm = (E jq).tm from congrArg Pl.Rc.tm eq2])
                have HLt := Lib.hid hltp
                clear ep eq ep2 eq2 hpp hqq hpjp hqjq q0 q1 hltp hwp hwq
                subst eA5
                go_upto_region 18 with (fail)
                refine wp_region_held_drew (S := (fun y => Below w6.heap.size w6 y)) (by kernel_rfl) (BX.out.drew) (fun hH0 => ?_)
                generalize hy0 : World.drew _ = y0 at hH0 ⊢
                have RB0 : Hid (Below w6.heap.size w6 y0) := Lib.hid hH0
                clear hy0
                refine wpAnyH_take (i := 0) (oi := ({ dst := some 100, op := Op.move (Operand.tmp 0), type := 22, pos := "law.go:104", after := #[], guard := none } : Oper)) (v := ?hv59) rfl (by kernel_rfl) (by kernel_rfl) (by kernel_rfl) (fun _ _ _ h => h) (Or.inl ⟨by rfl, ?hy59⟩) (by assumption) ?hr59
                case hy59 => (intro w hSw; (try dsimp only at hSw); go_simp; (try with_reducible rfl))
                try simp only [Act.put, List.setIfInBounds_toArray, List.set_cons_zero, List.set_cons_succ]
                refine wpAnyH_take (i := 1) (oi := ({ dst := some 101, op := Op.move (Operand.tmp 1), type := 26, pos := "law.go:104", after := #[], guard := none } : Oper)) (v := ?hv60) rfl (by kernel_rfl) (by kernel_rfl) (by kernel_rfl) (fun _ _ _ h => h) (Or.inl ⟨by rfl, ?hy60⟩) (by assumption) ?hr60
                case hy60 => (intro w hSw; (try dsimp only at hSw); go_simp; (try with_reducible rfl))
                try simp only [Act.put, List.setIfInBounds_toArray, List.set_cons_zero, List.set_cons_succ]
                refine wpAnyH_take (i := 2) (oi := ({ dst := some 102, op := Op.move (Operand.tmp 7), type := 26, pos := "law.go:104", after := #[], guard := none } : Oper)) (v := ?hv61) rfl (by kernel_rfl) (by kernel_rfl) (by kernel_rfl) (fun _ _ _ h => h) (Or.inl ⟨by rfl, ?hy61⟩) (by assumption) ?hr61
                case hy61 => (intro w hSw; (try dsimp only at hSw); go_simp; (try with_reducible rfl))
                try simp only [Act.put, List.setIfInBounds_toArray, List.set_cons_zero, List.set_cons_succ]
                refine wpAnyH_take (i := 3) (oi := ({ dst := some 103, op := Op.move (Operand.tmp 13), type := 3, pos := "law.go:104", after := #[], guard := none } : Oper)) (v := ?hv62) rfl (by kernel_rfl) (by kernel_rfl) (by kernel_rfl) (fun _ _ _ h => h) (Or.inl ⟨by rfl, ?hy62⟩) (by assumption) ?hr62
                case hy62 => (intro w hSw; (try dsimp only at hSw); go_simp; (try with_reducible rfl))
                try simp only [Act.put, List.setIfInBounds_toArray, List.set_cons_zero, List.set_cons_succ]
                refine wpAnyH_take (i := 4) (oi := ({ dst := some 104, op := Op.binOp BinOp.sub 3 (Operand.tmp 103) (Operand.const (Value.int IntKind.i64 1)) 3, type := 3, pos := "law.go:104", after := #[{ on := 3, ground := Ground.data }], guard := none } : Oper)) (v := ?hv63) rfl (by kernel_rfl) (by kernel_rfl) (by kernel_rfl) (fun _ _ _ h => h) (Or.inl ⟨by rfl, ?hy63⟩) (by assumption) ?hr63
                case hy63 => (intro w hSw; (try dsimp only at hSw); go_simp; (try with_reducible rfl))
                try simp only [Act.put, List.setIfInBounds_toArray, List.set_cons_zero, List.set_cons_succ]
                refine wpAnyH_take (i := 5) (oi := ({ dst := some 105, op := Op.indexAddr 26 (Operand.tmp 102) (Operand.tmp 104), type := 0, pos := "law.go:104", after := #[{ on := 2, ground := Ground.data }, { on := 4, ground := Ground.data }], guard := none } : Oper)) (v := ?hv64) rfl (by kernel_rfl) (by kernel_rfl) (by kernel_rfl) (fun _ _ _ h => h) (Or.inl ⟨by rfl, ?hy64⟩) (by assumption) ?hr64
                case hy64 => (intro w hSw; (try dsimp only at hSw); go_simp; (try with_reducible rfl))
                try simp only [Act.put, List.setIfInBounds_toArray, List.set_cons_zero, List.set_cons_succ]
                refine wpAnyH_take (i := 6) (oi := ({ dst := some 106, op := Op.load 3 (Operand.tmp 105), type := 3, pos := "law.go:104", after := #[{ on := 5, ground := Ground.data }], guard := none } : Oper)) (v := .int .i64 p.id) rfl (by kernel_rfl) (by kernel_rfl) (by kernel_rfl) (fun _ _ _ h => h) (Or.inl ⟨by rfl, fun w0 hw0 => by have q0 := HQp.out w0 hw0; go_simp⟩) (by assumption) ?_
                try simp only [Act.put, List.setIfInBounds_toArray, List.set_cons_zero, List.set_cons_succ]
                refine wpAnyH_take (i := 8) (oi := ({ dst := some 108, op := Op.move (Operand.tmp 0), type := 22, pos := "law.go:104", after := #[], guard := none } : Oper)) (v := ?hv65) rfl (by kernel_rfl) (by kernel_rfl) (by kernel_rfl) (fun _ _ _ h => h) (Or.inl ⟨by rfl, ?hy65⟩) (by assumption) ?hr65
                case hy65 => (intro w hSw; (try dsimp only at hSw); go_simp; (try with_reducible rfl))
                try simp only [Act.put, List.setIfInBounds_toArray, List.set_cons_zero, List.set_cons_succ]
                refine wpAnyH_take (i := 9) (oi := ({ dst := some 109, op := Op.move (Operand.tmp 1), type := 26, pos := "law.go:104", after := #[], guard := none } : Oper)) (v := ?hv66) rfl (by kernel_rfl) (by kernel_rfl) (by kernel_rfl) (fun _ _ _ h => h) (Or.inl ⟨by rfl, ?hy66⟩) (by assumption) ?hr66
                case hy66 => (intro w hSw; (try dsimp only at hSw); go_simp; (try with_reducible rfl))
                try simp only [Act.put, List.setIfInBounds_toArray, List.set_cons_zero, List.set_cons_succ]
                refine wpAnyH_take (i := 10) (oi := ({ dst := some 110, op := Op.move (Operand.tmp 7), type := 26, pos := "law.go:104", after := #[], guard := none } : Oper)) (v := ?hv67) rfl (by kernel_rfl) (by kernel_rfl) (by kernel_rfl) (fun _ _ _ h => h) (Or.inl ⟨by rfl, ?hy67⟩) (by assumption) ?hr67
                case hy67 => (intro w hSw; (try dsimp only at hSw); go_simp; (try with_reducible rfl))
                try simp only [Act.put, List.setIfInBounds_toArray, List.set_cons_zero, List.set_cons_succ]
                refine wpAnyH_take (i := 11) (oi := ({ dst := some 111, op := Op.move (Operand.tmp 13), type := 3, pos := "law.go:104", after := #[], guard := none } : Oper)) (v := ?hv68) rfl (by kernel_rfl) (by kernel_rfl) (by kernel_rfl) (fun _ _ _ h => h) (Or.inl ⟨by rfl, ?hy68⟩) (by assumption) ?hr68
                case hy68 => (intro w hSw; (try dsimp only at hSw); go_simp; (try with_reducible rfl))
                try simp only [Act.put, List.setIfInBounds_toArray, List.set_cons_zero, List.set_cons_succ]
                refine wpAnyH_take (i := 12) (oi := ({ dst := some 112, op := Op.indexAddr 26 (Operand.tmp 110) (Operand.tmp 111), type := 0, pos := "law.go:104", after := #[{ on := 10, ground := Ground.data }, { on := 11, ground := Ground.data }], guard := none } : Oper)) (v := ?hv69) rfl (by kernel_rfl) (by kernel_rfl) (by kernel_rfl) (fun _ _ _ h => h) (Or.inl ⟨by rfl, ?hy69⟩) (by assumption) ?hr69
                case hy69 => (intro w hSw; (try dsimp only at hSw); go_simp; (try with_reducible rfl))
                try simp only [Act.put, List.setIfInBounds_toArray, List.set_cons_zero, List.set_cons_succ]
                refine wpAnyH_take (i := 13) (oi := ({ dst := some 113, op := Op.load 3 (Operand.tmp 112), type := 3, pos := "law.go:104", after := #[{ on := 12, ground := Ground.data }], guard := none } : Oper)) (v := .int .i64 q.id) rfl (by kernel_rfl) (by kernel_rfl) (by kernel_rfl) (fun _ _ _ h => h) (Or.inl ⟨by rfl, fun w0 hw0 => by have q0 := HQq.out w0 hw0; go_simp⟩) (by assumption) ?_
                try simp only [Act.put, List.setIfInBounds_toArray, List.set_cons_zero, List.set_cons_succ]
                refine wpAnyH_ready (rs := [7]) (by kernel_rfl) (by simp) ?_
                refine AllReadyH.cons (o := ({ dst := some 107, op := Op.call { callee := Callee.value (Operand.func 13), args := #[Operand.tmp 100, Operand.tmp 101, Operand.tmp 106], argTypes := #[22, 26, 3] }, type := 3, pos := "law.go:104", after := #[{ on := 0, ground := Ground.data }, { on := 1, ground := Ground.data }, { on := 6, ground := Ground.data }], guard := none } : Oper)) rfl (fun KK hKK => ?_) AllReadyH.nil
                go_simp
                (with_reducible refine (HCp.out _ RB0.out).mono ?_)
                rintro e0 y1 ⟨rfl, hb⟩
                have RB1 := Lib.hid (RB0.out.trans (hb.mono RB0.out.size))
                clear hb
                refine hKK.out _ _ (RB1.out) (fun hH1 => ?_)
                clear hKK KK
                try simp only [Act.put, List.setIfInBounds_toArray, List.set_cons_zero, List.set_cons_succ]
                refine wpAnyH_ready (rs := [14]) (by kernel_rfl) (by simp) ?_
                refine AllReadyH.cons (o := ({ dst := some 114, op := Op.call { callee := Callee.value (Operand.func 13), args := #[Operand.tmp 108, Operand.tmp 109, Operand.tmp 113], argTypes := #[22, 26, 3] }, type := 3, pos := "law.go:104", after := #[{ on := 8, ground := Ground.data }, { on := 9, ground := Ground.data }, { on := 13, ground := Ground.data }, { on := 7, ground := Ground.chain }], guard := none } : Oper)) rfl (fun KK hKK => ?_) AllReadyH.nil
                go_simp
                (with_reducible refine (HCq.out _ RB1.out).mono ?_)
                rintro e0 y2 ⟨rfl, hb⟩
                have RB2 := Lib.hid (RB1.out.trans (hb.mono RB1.out.size))
                clear hb
                refine hKK.out _ _ (RB2.out) (fun hH2 => ?_)
                clear hKK KK
                try simp only [Act.put, List.setIfInBounds_toArray, List.set_cons_zero, List.set_cons_succ]
                refine wpAnyH_take (i := 15) (oi := ({ dst := some 14, op := Op.assign (Operand.tmp 107), type := 3, pos := "law.go:104", after := #[{ on := 7, ground := Ground.data }, { on := 14, ground := Ground.chain }, { on := 0, ground := Ground.phase }, { on := 1, ground := Ground.phase }, { on := 2, ground := Ground.phase }, { on := 3, ground := Ground.phase }, { on := 4, ground := Ground.phase }, { on := 5, ground := Ground.phase }, { on := 6, ground := Ground.phase }, { on := 7, ground := Ground.phase }, { on := 8, ground := Ground.textOnly Departure.lateStores }, { on := 9, ground := Ground.textOnly Departure.lateStores }, { on := 10, ground := Ground.textOnly Departure.lateStores }, { on := 11, ground := Ground.textOnly Departure.lateStores }, { on := 12, ground := Ground.textOnly Departure.lateStores }, { on := 13, ground := Ground.textOnly Departure.lateStores }, { on := 14, ground := Ground.textOnly Departure.lateStoresUnsure }], guard := none } : Oper)) (v := ?hv70) rfl (by kernel_rfl) (by kernel_rfl) (by kernel_rfl) (fun _ _ _ h => h) (Or.inl ⟨by rfl, ?hy70⟩) (by assumption) ?hr70
                case hy70 => (intro w hSw; (try dsimp only at hSw); go_simp; (try with_reducible rfl))
                try simp only [Act.put, List.setIfInBounds_toArray, List.set_cons_zero, List.set_cons_succ]
                refine wpAnyH_take (i := 16) (oi := ({ dst := some 15, op := Op.assign (Operand.tmp 114), type := 3, pos := "law.go:104", after := #[{ on := 14, ground := Ground.data }, { on := 15, ground := Ground.chain }, { on := 0, ground := Ground.phase }, { on := 1, ground := Ground.phase }, { on := 2, ground := Ground.phase }, { on := 3, ground := Ground.phase }, { on := 4, ground := Ground.phase }, { on := 5, ground := Ground.phase }, { on := 6, ground := Ground.phase }, { on := 7, ground := Ground.phase }, { on := 8, ground := Ground.phase }, { on := 9, ground := Ground.phase }, { on := 10, ground := Ground.phase }, { on := 11, ground := Ground.phase }, { on := 12, ground := Ground.phase }, { on := 13, ground := Ground.phase }, { on := 14, ground := Ground.phase }, { on := 15, ground := Ground.phase }], guard := none } : Oper)) (v := ?hv71) rfl (by kernel_rfl) (by kernel_rfl) (by kernel_rfl) (fun _ _ _ h => h) (Or.inl ⟨by rfl, ?hy71⟩) (by assumption) ?hr71
                case hy71 => (intro w hSw; (try dsimp only at hSw); go_simp; (try with_reducible rfl))
                try simp only [Act.put, List.setIfInBounds_toArray, List.set_cons_zero, List.set_cons_succ]
                refine wpAnyH_done (by kernel_rfl) ?_ _
                have q8 := HQp.out _ RB2.out
                go_upto_region 21 with (first
                  | (go_at_call 17; (with_reducible refine (HGp.out _ RB2.out).mono ?_); rintro e wa ⟨cs1, rfl, hl', ho', hq', hb⟩; have Lcs1 := Lib.hid hl'; have Ocs1 := Lib.hid ho'; have Qcs1 := Lib.hid hq'; have Dwa := Lib.hid hb; have Bwa := Lib.hid (RB2.out.trans (hb.mono RB2.out.size)); clear hb hl' ho' hq')
                  | (refine store_mid_as rfl 44 _ _ rfl wa.heap.size 0 cs1.toArray rfl rfl (show World.there (wa.alloc (.cells #[.int .i64 0, .string ⟨#[]⟩, .string ⟨#[]⟩, .int .i64 0, .bool false, .string ⟨#[]⟩, .int .i64 0, .int .i64 0, .slice none 0 0, .slice none 0 0, .string ⟨#[]⟩, .int .i64 0, .int .i64 0, .bool false, .string ⟨#[]⟩, .slice none 0 0, .slice none 0 0, .slice none 0 0, .slice none 0 0, .int .i64 0, .int .i64 0, .int .i64 0, .int .i64 0, .int .i64 0, .int .i64 0, .int .i64 0, .int .i64 0, .string ⟨#[]⟩, .int .i64 0] 44)) wa.heap.size 0 _ from (show Blk (wa.alloc (.cells #[.int .i64 0, .string ⟨#[]⟩, .string ⟨#[]⟩, .int .i64 0, .bool false, .string ⟨#[]⟩, .int .i64 0, .int .i64 0, .slice none 0 0, .slice none 0 0, .string ⟨#[]⟩, .int .i64 0, .int .i64 0, .bool false, .string ⟨#[]⟩, .slice none 0 0, .slice none 0 0, .slice none 0 0, .slice none 0 0, .int .i64 0, .int .i64 0, .int .i64 0, .int .i64 0, .int .i64 0, .int .i64 0, .int .i64 0, .int .i64 0, .string ⟨#[]⟩, .int .i64 0] 44)) wa.heap.size zE 44 from blk_new wa zE 44).there (by rw [List.size_toArray, Lcs1.out]; decide)) (size44a Lcs1.out) (all_arr Ocs1.out) ?_; intro wb e3; have Bwb := Lib.hid (show Below w6.heap.size w6 wb by rw [e3]; exact below_setRow (Bwa.out.alloc Bwa.out.size _) Bwa.out.size _ _); have Xwb := Lib.hid (show Blk wb wa.heap.size cs1 44 by rw [e3]; exact (show Blk (wa.alloc (.cells #[.int .i64 0, .string ⟨#[]⟩, .string ⟨#[]⟩, .int .i64 0, .bool false, .string ⟨#[]⟩, .int .i64 0, .int .i64 0, .slice none 0 0, .slice none 0 0, .string ⟨#[]⟩, .int .i64 0, .int .i64 0, .bool false, .string ⟨#[]⟩, .slice none 0 0, .slice none 0 0, .slice none 0 0, .slice none 0 0, .int .i64 0, .int .i64 0, .int .i64 0, .int .i64 0, .int .i64 0, .int .i64 0, .int .i64 0, .int .i64 0, .string ⟨#[]⟩, .int .i64 0] 44)) wa.heap.size zE 44 from blk_new wa zE 44).setAll cs1 Lcs1.out); have Ewb := Lib.hid (show Below wa.heap.size wa wb by rw [e3]; exact below_setRow ((Below.refl _ _).alloc (Nat.le_refl _) _) (Nat.le_refl _) _ _); have q9 := HQq.out _ Bwb.out; clear e3)
                  | (go_at_call 17; (with_reducible refine (HGq.out _ Bwb.out).mono ?_); rintro e wc ⟨cs2, rfl, hl', ho', hq', hb⟩; have Lcs2 := Lib.hid hl'; have Ocs2 := Lib.hid ho'; have Qcs2 := Lib.hid hq'; have Dwc := Lib.hid hb; have Bwc := Lib.hid (Bwb.out.trans (hb.mono Bwb.out.size)); clear hb hl' ho' hq')
                  | (refine store_mid_as rfl 44 _ _ rfl wc.heap.size 0 cs2.toArray rfl rfl (show World.there (wc.alloc (.cells #[.int .i64 0, .string ⟨#[]⟩, .string ⟨#[]⟩, .int .i64 0, .bool false, .string ⟨#[]⟩, .int .i64 0, .int .i64 0, .slice none 0 0, .slice none 0 0, .string ⟨#[]⟩, .int .i64 0, .int .i64 0, .bool false, .string ⟨#[]⟩, .slice none 0 0, .slice none 0 0, .slice none 0 0, .slice none 0 0, .int .i64 0, .int .i64 0, .int .i64 0, .int .i64 0, .int .i64 0, .int .i64 0, .int .i64 0, .int .i64 0, .string ⟨#[]⟩, .int .i64 0] 44)) wc.heap.size 0 _ from (show Blk (wc.alloc (.cells #[.int .i64 0, .string ⟨#[]⟩, .string ⟨#[]⟩, .int .i64 0, .bool false, .string ⟨#[]⟩, .int .i64 0, .int .i64 0, .slice none 0 0, .slice none 0 0, .string ⟨#[]⟩, .int .i64 0, .int .i64 0, .bool false, .string ⟨#[]⟩, .slice none 0 0, .slice none 0 0, .slice none 0 0, .slice none 0 0, .int .i64 0, .int .i64 0, .int .i64 0, .int .i64 0, .int .i64 0, .int .i64 0, .int .i64 0, .int .i64 0, .string ⟨#[]⟩, .int .i64 0] 44)) wc.heap.size zE 44 from blk_new wc zE 44).there (by rw [List.size_toArray, Lcs2.out]; decide)) (size44a Lcs2.out) (all_arr Ocs2.out) ?_; intro wd e3; have Bwd := Lib.hid (show Below w6.heap.size w6 wd by rw [e3]; exact below_setRow (Bwc.out.alloc Bwc.out.size _) Bwc.out.size _ _); have Xwd := Lib.hid (show Blk wd wc.heap.size cs2 44 by rw [e3]; exact (show Blk (wc.alloc (.cells #[.int .i64 0, .string ⟨#[]⟩, .string ⟨#[]⟩, .int .i64 0, .bool false, .string ⟨#[]⟩, .int .i64 0, .int .i64 0, .slice none 0 0, .slice none 0 0, .string ⟨#[]⟩, .int .i64 0, .int .i64 0, .bool false, .string ⟨#[]⟩, .slice none 0 0, .slice none 0 0, .slice none 0 0, .slice none 0 0, .int .i64 0, .int .i64 0, .int .i64 0, .int .i64 0, .int .i64 0, .int .i64 0, .int .i64 0, .int .i64 0, .string ⟨#[]⟩, .int .i64 0] 44)) wc.heap.size zE 44 from blk_new wc zE 44).setAll cs2 Lcs2.out); have Ewd := Lib.hid (show Below wc.heap.size wc wd by rw [e3]; exact below_setRow ((Below.refl _ _).alloc (Nat.le_refl _) _) (Nat.le_refl _) _ _);  clear e3)
                  | fail)
                have HTp := Lib.hid (fun v (hb : Below wd.heap.size wd v) => ((((Xwb.out.below Dwc.out).below Ewd.out).below hb).cell (i := 6) (v := .int .i64 p.tm) (by rw [Qcs1.out jp rfl, HFp.out])))
                have HTq := Lib.hid (fun v (hb : Below wd.heap.size wd v) => (Xwd.out.below hb).cell (i := 6) (v := .int .i64 q.tm) (by rw [Qcs2.out jq rfl, HFq.out]))
                have HQp2 := Lib.hid (fun v (hb : Below wd.heap.size wd v) => HQp.out v (Bwd.out.trans (hb.mono Bwd.out.size)))
                have HQq2 := Lib.hid (fun v (hb : Below wd.heap.size wd v) => HQq.out v (Bwd.out.trans (hb.mono Bwd.out.size)))
                have hlt2 := HLt.out
                unfold Pl.ltP at hlt2
                have cases3 : (¬ p.cl0 < q.cl0 ∧ (p.cl0 == q.cl0) = false) ∨ (¬ p.cl0 < q.cl0 ∧ (p.cl0 == q.cl0) = true ∧ ¬ q.tm < p.tm ∧ (p.tm == q.tm) = false) ∨ (¬ p.cl0 < q.cl0 ∧ (p.cl0 == q.cl0) = true ∧ ¬ q.tm < p.tm ∧ (p.tm == q.tm) = true ∧ ¬ q.id ≤ p.id) := by
                  simp only [beq_iff_eq, beq_eq_false_iff_ne, ne_eq]
                  omega
                clear hlt2
                rcases cases3 with ⟨z1, z2⟩ | ⟨z1, z2, z3, z4⟩ | ⟨z1, z2, z3, z4, z5⟩
                · refine wp_region_held_drew (S := (fun y => Below wd.heap.size wd y)) (by kernel_rfl) ((Below.refl wd.heap.size wd).drew) (fun hH0 => ?_)
                  generalize hx0 : World.drew _ = x0 at hH0 ⊢
                  have RC0 : Hid (Below wd.heap.size wd x0) := Lib.hid hH0
                  clear hx0
                  refine wpAnyH_take (i := 0) (oi := ({ dst := some 134, op := Op.move (Operand.tmp 14), type := 3, pos := "law.go:107", after := #[], guard := none } : Oper)) (v := ?hv1) rfl (by kernel_rfl) (by kernel_rfl) (by kernel_rfl) (fun _ _ _ h => h) (Or.inl ⟨by rfl, ?hy1⟩) (by assumption) ?hr1
                  case hy1 => (intro w hSw; (try dsimp only at hSw); go_simp; (try with_reducible rfl))
                  try simp only [Act.put, List.setIfInBounds_toArray, List.set_cons_zero, List.set_cons_succ]
                  refine wpAnyH_take (i := 1) (oi := ({ dst := some 135, op := Op.move (Operand.tmp 15), type := 3, pos := "law.go:107", after := #[], guard := none } : Oper)) (v := ?hv2) rfl (by kernel_rfl) (by kernel_rfl) (by kernel_rfl) (fun _ _ _ h => h) (Or.inl ⟨by rfl, ?hy2⟩) (by assumption) ?hr2
                  case hy2 => (intro w hSw; (try dsimp only at hSw); go_simp; (try with_reducible rfl))
                  try simp only [Act.put, List.setIfInBounds_toArray, List.set_cons_zero, List.set_cons_succ]
                  refine wpAnyH_take (i := 2) (oi := ({ dst := some 136, op := Op.binOp BinOp.lss 3 (Operand.tmp 134) (Operand.tmp 135) 3, type := 4, pos := "law.go:107", after := #[{ on := 0, ground := Ground.data }, { on := 1, ground := Ground.data }], guard := none } : Oper)) (v := ?hv3) rfl (by kernel_rfl) (by kernel_rfl) (by kernel_rfl) (fun _ _ _ h => h) (Or.inl ⟨by rfl, ?hy3⟩) (by assumption) ?hr3
                  case hy3 => (intro w hSw; (try dsimp only at hSw); go_simp; (try with_reducible rfl))
                  try simp only [Act.put, List.setIfInBounds_toArray, List.set_cons_zero, List.set_cons_succ]
                  refine wpAnyH_take (i := 3) (oi := ({ dst := some 137, op := Op.move (Operand.tmp 136), type := 4, pos := "law.go:107", after := #[{ on := 2, ground := Ground.data }], guard := none } : Oper)) (v := ?hv4) rfl (by kernel_rfl) (by kernel_rfl) (by kernel_rfl) (fun _ _ _ h => h) (Or.inl ⟨by rfl, ?hy4⟩) (by assumption) ?hr4
                  case hy4 => (intro w hSw; (try dsimp only at hSw); go_simp; (try with_reducible rfl))
                  try simp only [Act.put, List.setIfInBounds_toArray, List.set_cons_zero, List.set_cons_succ]
                  refine wpAnyH_take (i := 4) (oi := ({ dst := some 138, op := Op.move (Operand.tmp 14), type := 3, pos := "law.go:107", after := #[{ on := 3, ground := Ground.guard }], guard := some (3, false) } : Oper)) (v := ?hv5) rfl (by kernel_rfl) (by kernel_rfl) (by kernel_rfl) (fun _ _ _ h => h) (Or.inl ⟨by rfl, ?hy5⟩) (by assumption) ?hr5
                  case hy5 => (intro w hSw; (try dsimp only at hSw); go_simp; (try with_reducible rfl))
                  try simp only [Act.put, List.setIfInBounds_toArray, List.set_cons_zero, List.set_cons_succ]
                  refine wpAnyH_take (i := 5) (oi := ({ dst := some 139, op := Op.move (Operand.tmp 15), type := 3, pos := "law.go:107", after := #[{ on := 3, ground := Ground.guard }], guard := some (3, false) } : Oper)) (v := ?hv6) rfl (by kernel_rfl) (by kernel_rfl) (by kernel_rfl) (fun _ _ _ h => h) (Or.inl ⟨by rfl, ?hy6⟩) (by assumption) ?hr6
                  case hy6 => (intro w hSw; (try dsimp only at hSw); go_simp; (try with_reducible rfl))
                  try simp only [Act.put, List.setIfInBounds_toArray, List.set_cons_zero, List.set_cons_succ]
                  refine wpAnyH_take (i := 6) (oi := ({ dst := some 140, op := Op.binOp BinOp.eql 3 (Operand.tmp 138) (Operand.tmp 139) 3, type := 4, pos := "law.go:107", after := #[{ on := 4, ground := Ground.data }, { on := 5, ground := Ground.data }, { on := 3, ground := Ground.guard }], guard := some (3, false) } : Oper)) (v := ?hv7) rfl (by kernel_rfl) (by kernel_rfl) (by kernel_rfl) (fun _ _ _ h => h) (Or.inl ⟨by rfl, ?hy7⟩) (by assumption) ?hr7
                  case hy7 => (intro w hSw; (try dsimp only at hSw); go_simp; (try with_reducible rfl))
                  try simp only [Act.put, List.setIfInBounds_toArray, List.set_cons_zero, List.set_cons_succ]
                  refine wpAnyH_take (i := 7) (oi := ({ dst := some 141, op := Op.move (Operand.tmp 140), type := 4, pos := "law.go:107", after := #[{ on := 6, ground := Ground.data }, { on := 3, ground := Ground.chain }, { on := 3, ground := Ground.guard }], guard := some (3, false) } : Oper)) (v := ?hv8) rfl (by kernel_rfl) (by kernel_rfl) (by kernel_rfl) (fun _ _ _ h => h) (Or.inl ⟨by rfl, ?hy8⟩) (by assumption) ?hr8
                  case hy8 => (intro w hSw; (try dsimp only at hSw); go_simp; (try with_reducible rfl))
                  try simp only [Act.put, List.setIfInBounds_toArray, List.set_cons_zero, List.set_cons_succ]
                  refine wpAnyH_take (i := 8) (oi := ({ dst := some 142, op := Op.fieldAddr 44 (Operand.tmp 16) 6, type := 0, pos := "law.go:107", after := #[{ on := 7, ground := Ground.guard }], guard := some (7, true) } : Oper)) (v := undef) rfl (by kernel_rfl) (by kernel_rfl) (by kernel_rfl) (fun _ _ _ h => h) (Or.inr ⟨by rfl, rfl⟩) (by assumption) ?_
                  try simp only [Act.put, List.setIfInBounds_toArray, List.set_cons_zero, List.set_cons_succ]
                  refine wpAnyH_take (i := 9) (oi := ({ dst := some 143, op := Op.load 3 (Operand.tmp 142), type := 3, pos := "law.go:107", after := #[{ on := 8, ground := Ground.data }, { on := 7, ground := Ground.guard }], guard := some (7, true) } : Oper)) (v := undef) rfl (by kernel_rfl) (by kernel_rfl) (by kernel_rfl) (fun _ _ _ h => h) (Or.inr ⟨by rfl, rfl⟩) (by assumption) ?_
                  try simp only [Act.put, List.setIfInBounds_toArray, List.set_cons_zero, List.set_cons_succ]
                  refine wpAnyH_take (i := 10) (oi := ({ dst := some 144, op := Op.fieldAddr 44 (Operand.tmp 18) 6, type := 0, pos := "law.go:107", after := #[{ on := 7, ground := Ground.guard }], guard := some (7, true) } : Oper)) (v := undef) rfl (by kernel_rfl) (by kernel_rfl) (by kernel_rfl) (fun _ _ _ h => h) (Or.inr ⟨by rfl, rfl⟩) (by assumption) ?_
                  try simp only [Act.put, List.setIfInBounds_toArray, List.set_cons_zero, List.set_cons_succ]
                  refine wpAnyH_take (i := 11) (oi := ({ dst := some 145, op := Op.load 3 (Operand.tmp 144), type := 3, pos := "law.go:107", after := #[{ on := 10, ground := Ground.data }, { on := 7, ground := Ground.guard }], guard := some (7, true) } : Oper)) (v := undef) rfl (by kernel_rfl) (by kernel_rfl) (by kernel_rfl) (fun _ _ _ h => h) (Or.inr ⟨by rfl, rfl⟩) (by assumption) ?_
                  try simp only [Act.put, List.setIfInBounds_toArray, List.set_cons_zero, List.set_cons_succ]
                  refine wpAnyH_take (i := 12) (oi := ({ dst := some 146, op := Op.binOp BinOp.gtr 3 (Operand.tmp 143) (Operand.tmp 145) 3, type := 4, pos := "law.go:107", after := #[{ on := 9, ground := Ground.data }, { on := 11, ground := Ground.data }, { on := 7, ground := Ground.guard }], guard := some (7, true) } : Oper)) (v := undef) rfl (by kernel_rfl) (by kernel_rfl) (by kernel_rfl) (fun _ _ _ h => h) (Or.inr ⟨by rfl, rfl⟩) (by assumption) ?_
                  try simp only [Act.put, List.setIfInBounds_toArray, List.set_cons_zero, List.set_cons_succ]
                  refine wpAnyH_take (i := 13) (oi := ({ dst := some 147, op := Op.move (Operand.tmp 146), type := 4, pos := "law.go:107", after := #[{ on := 12, ground := Ground.data }, { on := 7, ground := Ground.chain }, { on := 7, ground := Ground.guard }], guard := some (7, true) } : Oper)) (v := undef) rfl (by kernel_rfl) (by kernel_rfl) (by kernel_rfl) (fun _ _ _ h => h) (Or.inr ⟨by rfl, rfl⟩) (by assumption) ?_
                  try simp only [Act.put, List.setIfInBounds_toArray, List.set_cons_zero, List.set_cons_succ]
                  refine wpAnyH_take (i := 14) (oi := ({ dst := some 148, op := Op.fieldAddr 44 (Operand.tmp 16) 6, type := 0, pos := "law.go:107", after := #[{ on := 13, ground := Ground.guard }], guard := some (13, false) } : Oper)) (v := undef) rfl (by kernel_rfl) (by kernel_rfl) (by kernel_rfl) (fun _ _ _ h => h) (Or.inr ⟨by rfl, rfl⟩) (by assumption) ?_
                  try simp only [Act.put, List.setIfInBounds_toArray, List.set_cons_zero, List.set_cons_succ]
                  refine wpAnyH_take (i := 15) (oi := ({ dst := some 149, op := Op.load 3 (Operand.tmp 148), type := 3, pos := "law.go:107", after := #[{ on := 14, ground := Ground.data }, { on := 13, ground := Ground.guard }], guard := some (13, false) } : Oper)) (v := undef) rfl (by kernel_rfl) (by kernel_rfl) (by kernel_rfl) (fun _ _ _ h => h) (Or.inr ⟨by rfl, rfl⟩) (by assumption) ?_
                  try simp only [Act.put, List.setIfInBounds_toArray, List.set_cons_zero, List.set_cons_succ]
                  refine wpAnyH_take (i := 16) (oi := ({ dst := some 150, op := Op.fieldAddr 44 (Operand.tmp 18) 6, type := 0, pos := "law.go:107", after := #[{ on := 13, ground := Ground.guard }], guard := some (13, false) } : Oper)) (v := undef) rfl (by kernel_rfl) (by kernel_rfl) (by kernel_rfl) (fun _ _ _ h => h) (Or.inr ⟨by rfl, rfl⟩) (by assumption) ?_
                  try simp only [Act.put, List.setIfInBounds_toArray, List.set_cons_zero, List.set_cons_succ]
                  refine wpAnyH_take (i := 17) (oi := ({ dst := some 151, op := Op.load 3 (Operand.tmp 150), type := 3, pos := "law.go:107", after := #[{ on := 16, ground := Ground.data }, { on := 13, ground := Ground.guard }], guard := some (13, false) } : Oper)) (v := undef) rfl (by kernel_rfl) (by kernel_rfl) (by kernel_rfl) (fun _ _ _ h => h) (Or.inr ⟨by rfl, rfl⟩) (by assumption) ?_
                  try simp only [Act.put, List.setIfInBounds_toArray, List.set_cons_zero, List.set_cons_succ]
                  refine wpAnyH_take (i := 18) (oi := ({ dst := some 152, op := Op.binOp BinOp.eql 3 (Operand.tmp 149) (Operand.tmp 151) 3, type := 4, pos := "law.go:107", after := #[{ on := 15, ground := Ground.data }, { on := 17, ground := Ground.data }, { on := 13, ground := Ground.guard }], guard := some (13, false) } : Oper)) (v := undef) rfl (by kernel_rfl) (by kernel_rfl) (by kernel_rfl) (fun _ _ _ h => h) (Or.inr ⟨by rfl, rfl⟩) (by assumption) ?_
                  try simp only [Act.put, List.setIfInBounds_toArray, List.set_cons_zero, List.set_cons_succ]
                  refine wpAnyH_take (i := 19) (oi := ({ dst := some 153, op := Op.move (Operand.tmp 152), type := 4, pos := "law.go:107", after := #[{ on := 18, ground := Ground.data }, { on := 13, ground := Ground.chain }, { on := 13, ground := Ground.guard }], guard := some (13, false) } : Oper)) (v := undef) rfl (by kernel_rfl) (by kernel_rfl) (by kernel_rfl) (fun _ _ _ h => h) (Or.inr ⟨by rfl, rfl⟩) (by assumption) ?_
                  try simp only [Act.put, List.setIfInBounds_toArray, List.set_cons_zero, List.set_cons_succ]
                  refine wpAnyH_take (i := 20) (oi := ({ dst := some 154, op := Op.move (Operand.tmp 7), type := 26, pos := "law.go:107", after := #[{ on := 19, ground := Ground.guard }], guard := some (19, true) } : Oper)) (v := undef) rfl (by kernel_rfl) (by kernel_rfl) (by kernel_rfl) (fun _ _ _ h => h) (Or.inr ⟨by rfl, rfl⟩) (by assumption) ?_
                  try simp only [Act.put, List.setIfInBounds_toArray, List.set_cons_zero, List.set_cons_succ]
                  refine wpAnyH_take (i := 21) (oi := ({ dst := some 155, op := Op.move (Operand.tmp 13), type := 3, pos := "law.go:107", after := #[{ on := 19, ground := Ground.guard }], guard := some (19, true) } : Oper)) (v := undef) rfl (by kernel_rfl) (by kernel_rfl) (by kernel_rfl) (fun _ _ _ h => h) (Or.inr ⟨by rfl, rfl⟩) (by assumption) ?_
                  try simp only [Act.put, List.setIfInBounds_toArray, List.set_cons_zero, List.set_cons_succ]
                  refine wpAnyH_take (i := 22) (oi := ({ dst := some 156, op := Op.binOp BinOp.sub 3 (Operand.tmp 155) (Operand.const (Value.int IntKind.i64 1)) 3, type := 3, pos := "law.go:107", after := #[{ on := 21, ground := Ground.data }, { on := 19, ground := Ground.guard }], guard := some (19, true) } : Oper)) (v := undef) rfl (by kernel_rfl) (by kernel_rfl) (by kernel_rfl) (fun _ _ _ h => h) (Or.inr ⟨by rfl, rfl⟩) (by assumption) ?_
                  try simp only [Act.put, List.setIfInBounds_toArray, List.set_cons_zero, List.set_cons_succ]
                  refine wpAnyH_take (i := 23) (oi := ({ dst := some 157, op := Op.indexAddr 26 (Operand.tmp 154) (Operand.tmp 156), type := 0, pos := "law.go:107", after := #[{ on := 20, ground := Ground.data }, { on := 22, ground := Ground.data }, { on := 19, ground := Ground.guard }], guard := some (19, true) } : Oper)) (v := undef) rfl (by kernel_rfl) (by kernel_rfl) (by kernel_rfl) (fun _ _ _ h => h) (Or.inr ⟨by rfl, rfl⟩) (by assumption) ?_
                  try simp only [Act.put, List.setIfInBounds_toArray, List.set_cons_zero, List.set_cons_succ]
                  refine wpAnyH_take (i := 24) (oi := ({ dst := some 158, op := Op.load 3 (Operand.tmp 157), type := 3, pos := "law.go:107", after := #[{ on := 23, ground := Ground.data }, { on := 19, ground := Ground.guard }], guard := some (19, true) } : Oper)) (v := undef) rfl (by kernel_rfl) (by kernel_rfl) (by kernel_rfl) (fun _ _ _ h => h) (Or.inr ⟨by rfl, rfl⟩) (by assumption) ?_
                  try simp only [Act.put, List.setIfInBounds_toArray, List.set_cons_zero, List.set_cons_succ]
                  refine wpAnyH_take (i := 25) (oi := ({ dst := some 159, op := Op.move (Operand.tmp 7), type := 26, pos := "law.go:107", after := #[{ on := 19, ground := Ground.guard }], guard := some (19, true) } : Oper)) (v := undef) rfl (by kernel_rfl) (by kernel_rfl) (by kernel_rfl) (fun _ _ _ h => h) (Or.inr ⟨by rfl, rfl⟩) (by assumption) ?_
                  try simp only [Act.put, List.setIfInBounds_toArray, List.set_cons_zero, List.set_cons_succ]
                  refine wpAnyH_take (i := 26) (oi := ({ dst := some 160, op := Op.move (Operand.tmp 13), type := 3, pos := "law.go:107", after := #[{ on := 19, ground := Ground.guard }], guard := some (19, true) } : Oper)) (v := undef) rfl (by kernel_rfl) (by kernel_rfl) (by kernel_rfl) (fun _ _ _ h => h) (Or.inr ⟨by rfl, rfl⟩) (by assumption) ?_
                  try simp only [Act.put, List.setIfInBounds_toArray, List.set_cons_zero, List.set_cons_succ]
                  refine wpAnyH_take (i := 27) (oi := ({ dst := some 161, op := Op.indexAddr 26 (Operand.tmp 159) (Operand.tmp 160), type := 0, pos := "law.go:107", after := #[{ on := 25, ground := Ground.data }, { on := 26, ground := Ground.data }, { on := 19, ground := Ground.guard }], guard := some (19, true) } : Oper)) (v := undef) rfl (by kernel_rfl) (by kernel_rfl) (by kernel_rfl) (fun _ _ _ h => h) (Or.inr ⟨by rfl, rfl⟩) (by assumption) ?_
                  try simp only [Act.put, List.setIfInBounds_toArray, List.set_cons_zero, List.set_cons_succ]
                  refine wpAnyH_take (i := 28) (oi := ({ dst := some 162, op := Op.load 3 (Operand.tmp 161), type := 3, pos := "law.go:107", after := #[{ on := 27, ground := Ground.data }, { on := 19, ground := Ground.guard }], guard := some (19, true) } : Oper)) (v := undef) rfl (by kernel_rfl) (by kernel_rfl) (by kernel_rfl) (fun _ _ _ h => h) (Or.inr ⟨by rfl, rfl⟩) (by assumption) ?_
                  try simp only [Act.put, List.setIfInBounds_toArray, List.set_cons_zero, List.set_cons_succ]
                  refine wpAnyH_take (i := 29) (oi := ({ dst := some 163, op := Op.binOp BinOp.geq 3 (Operand.tmp 158) (Operand.tmp 162) 3, type := 4, pos := "law.go:107", after := #[{ on := 24, ground := Ground.data }, { on := 28, ground := Ground.data }, { on := 19, ground := Ground.guard }], guard := some (19, true) } : Oper)) (v := undef) rfl (by kernel_rfl) (by kernel_rfl) (by kernel_rfl) (fun _ _ _ h => h) (Or.inr ⟨by rfl, rfl⟩) (by assumption) ?_
                  try simp only [Act.put, List.setIfInBounds_toArray, List.set_cons_zero, List.set_cons_succ]
                  refine wpAnyH_take (i := 30) (oi := ({ dst := some 164, op := Op.pick (Operand.tmp 153) (Operand.tmp 163) (Operand.const (Value.bool false)), type := 4, pos := "law.go:107", after := #[{ on := 19, ground := Ground.data }, { on := 29, ground := Ground.data }, { on := 13, ground := Ground.guard }], guard := some (13, false) } : Oper)) (v := undef) rfl (by kernel_rfl) (by kernel_rfl) (by kernel_rfl) (fun _ _ _ h => h) (Or.inr ⟨by rfl, rfl⟩) (by assumption) ?_
                  try simp only [Act.put, List.setIfInBounds_toArray, List.set_cons_zero, List.set_cons_succ]
                  refine wpAnyH_take (i := 31) (oi := ({ dst := some 165, op := Op.pick (Operand.tmp 147) (Operand.const (Value.bool true)) (Operand.tmp 164), type := 4, pos := "law.go:107", after := #[{ on := 13, ground := Ground.data }, { on := 30, ground := Ground.data }, { on := 7, ground := Ground.guard }], guard := some (7, true) } : Oper)) (v := undef) rfl (by kernel_rfl) (by kernel_rfl) (by kernel_rfl) (fun _ _ _ h => h) (Or.inr ⟨by rfl, rfl⟩) (by assumption) ?_
                  try simp only [Act.put, List.setIfInBounds_toArray, List.set_cons_zero, List.set_cons_succ]
                  refine wpAnyH_take (i := 32) (oi := ({ dst := some 166, op := Op.pick (Operand.tmp 141) (Operand.tmp 165) (Operand.const (Value.bool false)), type := 4, pos := "law.go:107", after := #[{ on := 7, ground := Ground.data }, { on := 31, ground := Ground.data }, { on := 3, ground := Ground.guard }], guard := some (3, false) } : Oper)) (v := ?hv9) rfl (by kernel_rfl) (by kernel_rfl) (by kernel_rfl) (fun _ _ _ h => h) (Or.inl ⟨by rfl, ?hy9⟩) (by assumption) ?hr9
                  case hy9 => (intro w hSw; (try dsimp only at hSw); go_simp; (try with_reducible rfl))
                  try simp only [Act.put, List.setIfInBounds_toArray, List.set_cons_zero, List.set_cons_succ]
                  refine wpAnyH_take (i := 33) (oi := ({ dst := some 167, op := Op.pick (Operand.tmp 137) (Operand.const (Value.bool true)) (Operand.tmp 166), type := 4, pos := "law.go:107", after := #[{ on := 3, ground := Ground.data }, { on := 32, ground := Ground.data }], guard := none } : Oper)) (v := ?hv10) rfl (by kernel_rfl) (by kernel_rfl) (by kernel_rfl) (fun _ _ _ h => h) (Or.inl ⟨by rfl, ?hy10⟩) (by assumption) ?hr10
                  case hy10 => (intro w hSw; (try dsimp only at hSw); go_simp; (try with_reducible rfl))
                  try simp only [Act.put, List.setIfInBounds_toArray, List.set_cons_zero, List.set_cons_succ]
                  refine wpAnyH_done (by kernel_rfl) ?_ _
                  go_wp2
                  go_roundg (od.length - (i + 1 + 1))
                  case measure => omega
                  case rel => exact ⟨i + 1 + 1, by omega, by omega, by omega, by go_num, Lib.hid (Bwd.out.trans (RC0.out.mono Bwd.out.size))⟩
                · refine wp_region_held_drew (S := (fun y => Below wd.heap.size wd y)) (by kernel_rfl) ((Below.refl wd.heap.size wd).drew) (fun hH0 => ?_)
                  generalize hx0 : World.drew _ = x0 at hH0 ⊢
                  have RC0 : Hid (Below wd.heap.size wd x0) := Lib.hid hH0
                  clear hx0
                  refine wpAnyH_take (i := 0) (oi := ({ dst := some 134, op := Op.move (Operand.tmp 14), type := 3, pos := "law.go:107", after := #[], guard := none } : Oper)) (v := ?hv11) rfl (by kernel_rfl) (by kernel_rfl) (by kernel_rfl) (fun _ _ _ h => h) (Or.inl ⟨by rfl, ?hy11⟩) (by assumption) ?hr11
                  case hy11 => (intro w hSw; (try dsimp only at hSw); go_simp; (try with_reducible rfl))
                  try simp only [Act.put, List.setIfInBounds_toArray, List.set_cons_zero, List.set_cons_succ]
                  refine wpAnyH_take (i := 1) (oi := ({ dst := some 135, op := Op.move (Operand.tmp 15), type := 3, pos := "law.go:107", after := #[], guard := none } : Oper)) (v := ?hv12) rfl (by kernel_rfl) (by kernel_rfl) (by kernel_rfl) (fun _ _ _ h => h) (Or.inl ⟨by rfl, ?hy12⟩) (by assumption) ?hr12
                  case hy12 => (intro w hSw; (try dsimp only at hSw); go_simp; (try with_reducible rfl))
                  try simp only [Act.put, List.setIfInBounds_toArray, List.set_cons_zero, List.set_cons_succ]
                  refine wpAnyH_take (i := 2) (oi := ({ dst := some 136, op := Op.binOp BinOp.lss 3 (Operand.tmp 134) (Operand.tmp 135) 3, type := 4, pos := "law.go:107", after := #[{ on := 0, ground := Ground.data }, { on := 1, ground := Ground.data }], guard := none } : Oper)) (v := ?hv13) rfl (by kernel_rfl) (by kernel_rfl) (by kernel_rfl) (fun _ _ _ h => h) (Or.inl ⟨by rfl, ?hy13⟩) (by assumption) ?hr13
                  case hy13 => (intro w hSw; (try dsimp only at hSw); go_simp; (try with_reducible rfl))
                  try simp only [Act.put, List.setIfInBounds_toArray, List.set_cons_zero, List.set_cons_succ]
                  refine wpAnyH_take (i := 3) (oi := ({ dst := some 137, op := Op.move (Operand.tmp 136), type := 4, pos := "law.go:107", after := #[{ on := 2, ground := Ground.data }], guard := none } : Oper)) (v := ?hv14) rfl (by kernel_rfl) (by kernel_rfl) (by kernel_rfl) (fun _ _ _ h => h) (Or.inl ⟨by rfl, ?hy14⟩) (by assumption) ?hr14
                  case hy14 => (intro w hSw; (try dsimp only at hSw); go_simp; (try with_reducible rfl))
                  try simp only [Act.put, List.setIfInBounds_toArray, List.set_cons_zero, List.set_cons_succ]
                  refine wpAnyH_take (i := 4) (oi := ({ dst := some 138, op := Op.move (Operand.tmp 14), type := 3, pos := "law.go:107", after := #[{ on := 3, ground := Ground.guard }], guard := some (3, false) } : Oper)) (v := ?hv15) rfl (by kernel_rfl) (by kernel_rfl) (by kernel_rfl) (fun _ _ _ h => h) (Or.inl ⟨by rfl, ?hy15⟩) (by assumption) ?hr15
                  case hy15 => (intro w hSw; (try dsimp only at hSw); go_simp; (try with_reducible rfl))
                  try simp only [Act.put, List.setIfInBounds_toArray, List.set_cons_zero, List.set_cons_succ]
                  refine wpAnyH_take (i := 5) (oi := ({ dst := some 139, op := Op.move (Operand.tmp 15), type := 3, pos := "law.go:107", after := #[{ on := 3, ground := Ground.guard }], guard := some (3, false) } : Oper)) (v := ?hv16) rfl (by kernel_rfl) (by kernel_rfl) (by kernel_rfl) (fun _ _ _ h => h) (Or.inl ⟨by rfl, ?hy16⟩) (by assumption) ?hr16
                  case hy16 => (intro w hSw; (try dsimp only at hSw); go_simp; (try with_reducible rfl))
                  try simp only [Act.put, List.setIfInBounds_toArray, List.set_cons_zero, List.set_cons_succ]
                  refine wpAnyH_take (i := 6) (oi := ({ dst := some 140, op := Op.binOp BinOp.eql 3 (Operand.tmp 138) (Operand.tmp 139) 3, type := 4, pos := "law.go:107", after := #[{ on := 4, ground := Ground.data }, { on := 5, ground := Ground.data }, { on := 3, ground := Ground.guard }], guard := some (3, false) } : Oper)) (v := ?hv17) rfl (by kernel_rfl) (by kernel_rfl) (by kernel_rfl) (fun _ _ _ h => h) (Or.inl ⟨by rfl, ?hy17⟩) (by assumption) ?hr17
                  case hy17 => (intro w hSw; (try dsimp only at hSw); go_simp; (try with_reducible rfl))
                  try simp only [Act.put, List.setIfInBounds_toArray, List.set_cons_zero, List.set_cons_succ]
                  refine wpAnyH_take (i := 7) (oi := ({ dst := some 141, op := Op.move (Operand.tmp 140), type := 4, pos := "law.go:107", after := #[{ on := 6, ground := Ground.data }, { on := 3, ground := Ground.chain }, { on := 3, ground := Ground.guard }], guard := some (3, false) } : Oper)) (v := ?hv18) rfl (by kernel_rfl) (by kernel_rfl) (by kernel_rfl) (fun _ _ _ h => h) (Or.inl ⟨by rfl, ?hy18⟩) (by assumption) ?hr18
                  case hy18 => (intro w hSw; (try dsimp only at hSw); go_simp; (try with_reducible rfl))
                  try simp only [Act.put, List.setIfInBounds_toArray, List.set_cons_zero, List.set_cons_succ]
                  refine wpAnyH_take (i := 8) (oi := ({ dst := some 142, op := Op.fieldAddr 44 (Operand.tmp 16) 6, type := 0, pos := "law.go:107", after := #[{ on := 7, ground := Ground.guard }], guard := some (7, true) } : Oper)) (v := ?hv19) rfl (by kernel_rfl) (by kernel_rfl) (by kernel_rfl) (fun _ _ _ h => h) (Or.inl ⟨by rfl, ?hy19⟩) (by assumption) ?hr19
                  case hy19 => (intro w hSw; (try dsimp only at hSw); go_simp; (try with_reducible rfl))
                  try simp only [Act.put, List.setIfInBounds_toArray, List.set_cons_zero, List.set_cons_succ]
                  refine wpAnyH_take (i := 9) (oi := ({ dst := some 143, op := Op.load 3 (Operand.tmp 142), type := 3, pos := "law.go:107", after := #[{ on := 8, ground := Ground.data }, { on := 7, ground := Ground.guard }], guard := some (7, true) } : Oper)) (v := .int .i64 p.tm) rfl (by kernel_rfl) (by kernel_rfl) (by kernel_rfl) (fun _ _ _ h => h) (Or.inl ⟨by rfl, fun w0 hw0 => by have q0 := HTp.out w0 hw0; go_simp⟩) (by assumption) ?_
                  try simp only [Act.put, List.setIfInBounds_toArray, List.set_cons_zero, List.set_cons_succ]
                  refine wpAnyH_take (i := 10) (oi := ({ dst := some 144, op := Op.fieldAddr 44 (Operand.tmp 18) 6, type := 0, pos := "law.go:107", after := #[{ on := 7, ground := Ground.guard }], guard := some (7, true) } : Oper)) (v := ?hv20) rfl (by kernel_rfl) (by kernel_rfl) (by kernel_rfl) (fun _ _ _ h => h) (Or.inl ⟨by rfl, ?hy20⟩) (by assumption) ?hr20
                  case hy20 => (intro w hSw; (try dsimp only at hSw); go_simp; (try with_reducible rfl))
                  try simp only [Act.put, List.setIfInBounds_toArray, List.set_cons_zero, List.set_cons_succ]
                  refine wpAnyH_take (i := 11) (oi := ({ dst := some 145, op := Op.load 3 (Operand.tmp 144), type := 3, pos := "law.go:107", after := #[{ on := 10, ground := Ground.data }, { on := 7, ground := Ground.guard }], guard := some (7, true) } : Oper)) (v := .int .i64 q.tm) rfl (by kernel_rfl) (by kernel_rfl) (by kernel_rfl) (fun _ _ _ h => h) (Or.inl ⟨by rfl, fun w0 hw0 => by have q0 := HTq.out w0 hw0; go_simp⟩) (by assumption) ?_
                  try simp only [Act.put, List.setIfInBounds_toArray, List.set_cons_zero, List.set_cons_succ]
                  refine wpAnyH_take (i := 12) (oi := ({ dst := some 146, op := Op.binOp BinOp.gtr 3 (Operand.tmp 143) (Operand.tmp 145) 3, type := 4, pos := "law.go:107", after := #[{ on := 9, ground := Ground.data }, { on := 11, ground := Ground.data }, { on := 7, ground := Ground.guard }], guard := some (7, true) } : Oper)) (v := ?hv21) rfl (by kernel_rfl) (by kernel_rfl) (by kernel_rfl) (fun _ _ _ h => h) (Or.inl ⟨by rfl, ?hy21⟩) (by assumption) ?hr21
                  case hy21 => (intro w hSw; (try dsimp only at hSw); go_simp; (try with_reducible rfl))
                  try simp only [Act.put, List.setIfInBounds_toArray, List.set_cons_zero, List.set_cons_succ]
                  refine wpAnyH_take (i := 13) (oi := ({ dst := some 147, op := Op.move (Operand.tmp 146), type := 4, pos := "law.go:107", after := #[{ on := 12, ground := Ground.data }, { on := 7, ground := Ground.chain }, { on := 7, ground := Ground.guard }], guard := some (7, true) } : Oper)) (v := ?hv22) rfl (by kernel_rfl) (by kernel_rfl) (by kernel_rfl) (fun _ _ _ h => h) (Or.inl ⟨by rfl, ?hy22⟩) (by assumption) ?hr22
                  case hy22 => (intro w hSw; (try dsimp only at hSw); go_simp; (try with_reducible rfl))
                  try simp only [Act.put, List.setIfInBounds_toArray, List.set_cons_zero, List.set_cons_succ]
                  refine wpAnyH_take (i := 14) (oi := ({ dst := some 148, op := Op.fieldAddr 44 (Operand.tmp 16) 6, type := 0, pos := "law.go:107", after := #[{ on := 13, ground := Ground.guard }], guard := some (13, false) } : Oper)) (v := ?hv23) rfl (by kernel_rfl) (by kernel_rfl) (by kernel_rfl) (fun _ _ _ h => h) (Or.inl ⟨by rfl, ?hy23⟩) (by assumption) ?hr23
                  case hy23 => (intro w hSw; (try dsimp only at hSw); go_simp; (try with_reducible rfl))
                  try simp only [Act.put, List.setIfInBounds_toArray, List.set_cons_zero, List.set_cons_succ]
                  refine wpAnyH_take (i := 15) (oi := ({ dst := some 149, op := Op.load 3 (Operand.tmp 148), type := 3, pos := "law.go:107", after := #[{ on := 14, ground := Ground.data }, { on := 13, ground := Ground.guard }], guard := some (13, false) } : Oper)) (v := .int .i64 p.tm) rfl (by kernel_rfl) (by kernel_rfl) (by kernel_rfl) (fun _ _ _ h => h) (Or.inl ⟨by rfl, fun w0 hw0 => by have q0 := HTp.out w0 hw0; go_simp⟩) (by assumption) ?_
                  try simp only [Act.put, List.setIfInBounds_toArray, List.set_cons_zero, List.set_cons_succ]
                  refine wpAnyH_take (i := 16) (oi := ({ dst := some 150, op := Op.fieldAddr 44 (Operand.tmp 18) 6, type := 0, pos := "law.go:107", after := #[{ on := 13, ground := Ground.guard }], guard := some (13, false) } : Oper)) (v := ?hv24) rfl (by kernel_rfl) (by kernel_rfl) (by kernel_rfl) (fun _ _ _ h => h) (Or.inl ⟨by rfl, ?hy24⟩) (by assumption) ?hr24
                  case hy24 => (intro w hSw; (try dsimp only at hSw); go_simp; (try with_reducible rfl))
                  try simp only [Act.put, List.setIfInBounds_toArray, List.set_cons_zero, List.set_cons_succ]
                  refine wpAnyH_take (i := 17) (oi := ({ dst := some 151, op := Op.load 3 (Operand.tmp 150), type := 3, pos := "law.go:107", after := #[{ on := 16, ground := Ground.data }, { on := 13, ground := Ground.guard }], guard := some (13, false) } : Oper)) (v := .int .i64 q.tm) rfl (by kernel_rfl) (by kernel_rfl) (by kernel_rfl) (fun _ _ _ h => h) (Or.inl ⟨by rfl, fun w0 hw0 => by have q0 := HTq.out w0 hw0; go_simp⟩) (by assumption) ?_
                  try simp only [Act.put, List.setIfInBounds_toArray, List.set_cons_zero, List.set_cons_succ]
                  refine wpAnyH_take (i := 18) (oi := ({ dst := some 152, op := Op.binOp BinOp.eql 3 (Operand.tmp 149) (Operand.tmp 151) 3, type := 4, pos := "law.go:107", after := #[{ on := 15, ground := Ground.data }, { on := 17, ground := Ground.data }, { on := 13, ground := Ground.guard }], guard := some (13, false) } : Oper)) (v := ?hv25) rfl (by kernel_rfl) (by kernel_rfl) (by kernel_rfl) (fun _ _ _ h => h) (Or.inl ⟨by rfl, ?hy25⟩) (by assumption) ?hr25
                  case hy25 => (intro w hSw; (try dsimp only at hSw); go_simp; (try with_reducible rfl))
                  try simp only [Act.put, List.setIfInBounds_toArray, List.set_cons_zero, List.set_cons_succ]
                  refine wpAnyH_take (i := 19) (oi := ({ dst := some 153, op := Op.move (Operand.tmp 152), type := 4, pos := "law.go:107", after := #[{ on := 18, ground := Ground.data }, { on := 13, ground := Ground.chain }, { on := 13, ground := Ground.guard }], guard := some (13, false) } : Oper)) (v := ?hv26) rfl (by kernel_rfl) (by kernel_rfl) (by kernel_rfl) (fun _ _ _ h => h) (Or.inl ⟨by rfl, ?hy26⟩) (by assumption) ?hr26
                  case hy26 => (intro w hSw; (try dsimp only at hSw); go_simp; (try with_reducible rfl))
                  try simp only [Act.put, List.setIfInBounds_toArray, List.set_cons_zero, List.set_cons_succ]
                  refine wpAnyH_take (i := 20) (oi := ({ dst := some 154, op := Op.move (Operand.tmp 7), type := 26, pos := "law.go:107", after := #[{ on := 19, ground := Ground.guard }], guard := some (19, true) } : Oper)) (v := undef) rfl (by kernel_rfl) (by kernel_rfl) (by kernel_rfl) (fun _ _ _ h => h) (Or.inr ⟨by rfl, rfl⟩) (by assumption) ?_
                  try simp only [Act.put, List.setIfInBounds_toArray, List.set_cons_zero, List.set_cons_succ]
                  refine wpAnyH_take (i := 21) (oi := ({ dst := some 155, op := Op.move (Operand.tmp 13), type := 3, pos := "law.go:107", after := #[{ on := 19, ground := Ground.guard }], guard := some (19, true) } : Oper)) (v := undef) rfl (by kernel_rfl) (by kernel_rfl) (by kernel_rfl) (fun _ _ _ h => h) (Or.inr ⟨by rfl, rfl⟩) (by assumption) ?_
                  try simp only [Act.put, List.setIfInBounds_toArray, List.set_cons_zero, List.set_cons_succ]
                  refine wpAnyH_take (i := 22) (oi := ({ dst := some 156, op := Op.binOp BinOp.sub 3 (Operand.tmp 155) (Operand.const (Value.int IntKind.i64 1)) 3, type := 3, pos := "law.go:107", after := #[{ on := 21, ground := Ground.data }, { on := 19, ground := Ground.guard }], guard := some (19, true) } : Oper)) (v := undef) rfl (by kernel_rfl) (by kernel_rfl) (by kernel_rfl) (fun _ _ _ h => h) (Or.inr ⟨by rfl, rfl⟩) (by assumption) ?_
                  try simp only [Act.put, List.setIfInBounds_toArray, List.set_cons_zero, List.set_cons_succ]
                  refine wpAnyH_take (i := 23) (oi := ({ dst := some 157, op := Op.indexAddr 26 (Operand.tmp 154) (Operand.tmp 156), type := 0, pos := "law.go:107", after := #[{ on := 20, ground := Ground.data }, { on := 22, ground := Ground.data }, { on := 19, ground := Ground.guard }], guard := some (19, true) } : Oper)) (v := undef) rfl (by kernel_rfl) (by kernel_rfl) (by kernel_rfl) (fun _ _ _ h => h) (Or.inr ⟨by rfl, rfl⟩) (by assumption) ?_
                  try simp only [Act.put, List.setIfInBounds_toArray, List.set_cons_zero, List.set_cons_succ]
                  refine wpAnyH_take (i := 24) (oi := ({ dst := some 158, op := Op.load 3 (Operand.tmp 157), type := 3, pos := "law.go:107", after := #[{ on := 23, ground := Ground.data }, { on := 19, ground := Ground.guard }], guard := some (19, true) } : Oper)) (v := undef) rfl (by kernel_rfl) (by kernel_rfl) (by kernel_rfl) (fun _ _ _ h => h) (Or.inr ⟨by rfl, rfl⟩) (by assumption) ?_
                  try simp only [Act.put, List.setIfInBounds_toArray, List.set_cons_zero, List.set_cons_succ]
                  refine wpAnyH_take (i := 25) (oi := ({ dst := some 159, op := Op.move (Operand.tmp 7), type := 26, pos := "law.go:107", after := #[{ on := 19, ground := Ground.guard }], guard := some (19, true) } : Oper)) (v := undef) rfl (by kernel_rfl) (by kernel_rfl) (by kernel_rfl) (fun _ _ _ h => h) (Or.inr ⟨by rfl, rfl⟩) (by assumption) ?_
                  try simp only [Act.put, List.setIfInBounds_toArray, List.set_cons_zero, List.set_cons_succ]
                  refine wpAnyH_take (i := 26) (oi := ({ dst := some 160, op := Op.move (Operand.tmp 13), type := 3, pos := "law.go:107", after := #[{ on := 19, ground := Ground.guard }], guard := some (19, true) } : Oper)) (v := undef) rfl (by kernel_rfl) (by kernel_rfl) (by kernel_rfl) (fun _ _ _ h => h) (Or.inr ⟨by rfl, rfl⟩) (by assumption) ?_
                  try simp only [Act.put, List.setIfInBounds_toArray, List.set_cons_zero, List.set_cons_succ]
                  refine wpAnyH_take (i := 27) (oi := ({ dst := some 161, op := Op.indexAddr 26 (Operand.tmp 159) (Operand.tmp 160), type := 0, pos := "law.go:107", after := #[{ on := 25, ground := Ground.data }, { on := 26, ground := Ground.data }, { on := 19, ground := Ground.guard }], guard := some (19, true) } : Oper)) (v := undef) rfl (by kernel_rfl) (by kernel_rfl) (by kernel_rfl) (fun _ _ _ h => h) (Or.inr ⟨by rfl, rfl⟩) (by assumption) ?_
                  try simp only [Act.put, List.setIfInBounds_toArray, List.set_cons_zero, List.set_cons_succ]
                  refine wpAnyH_take (i := 28) (oi := ({ dst := some 162, op := Op.load 3 (Operand.tmp 161), type := 3, pos := "law.go:107", after := #[{ on := 27, ground := Ground.data }, { on := 19, ground := Ground.guard }], guard := some (19, true) } : Oper)) (v := undef) rfl (by kernel_rfl) (by kernel_rfl) (by kernel_rfl) (fun _ _ _ h => h) (Or.inr ⟨by rfl, rfl⟩) (by assumption) ?_
                  try simp only [Act.put, List.setIfInBounds_toArray, List.set_cons_zero, List.set_cons_succ]
                  refine wpAnyH_take (i := 29) (oi := ({ dst := some 163, op := Op.binOp BinOp.geq 3 (Operand.tmp 158) (Operand.tmp 162) 3, type := 4, pos := "law.go:107", after := #[{ on := 24, ground := Ground.data }, { on := 28, ground := Ground.data }, { on := 19, ground := Ground.guard }], guard := some (19, true) } : Oper)) (v := undef) rfl (by kernel_rfl) (by kernel_rfl) (by kernel_rfl) (fun _ _ _ h => h) (Or.inr ⟨by rfl, rfl⟩) (by assumption) ?_
                  try simp only [Act.put, List.setIfInBounds_toArray, List.set_cons_zero, List.set_cons_succ]
                  refine wpAnyH_take (i := 30) (oi := ({ dst := some 164, op := Op.pick (Operand.tmp 153) (Operand.tmp 163) (Operand.const (Value.bool false)), type := 4, pos := "law.go:107", after := #[{ on := 19, ground := Ground.data }, { on := 29, ground := Ground.data }, { on := 13, ground := Ground.guard }], guard := some (13, false) } : Oper)) (v := ?hv27) rfl (by kernel_rfl) (by kernel_rfl) (by kernel_rfl) (fun _ _ _ h => h) (Or.inl ⟨by rfl, ?hy27⟩) (by assumption) ?hr27
                  case hy27 => (intro w hSw; (try dsimp only at hSw); go_simp; (try with_reducible rfl))
                  try simp only [Act.put, List.setIfInBounds_toArray, List.set_cons_zero, List.set_cons_succ]
                  refine wpAnyH_take (i := 31) (oi := ({ dst := some 165, op := Op.pick (Operand.tmp 147) (Operand.const (Value.bool true)) (Operand.tmp 164), type := 4, pos := "law.go:107", after := #[{ on := 13, ground := Ground.data }, { on := 30, ground := Ground.data }, { on := 7, ground := Ground.guard }], guard := some (7, true) } : Oper)) (v := ?hv28) rfl (by kernel_rfl) (by kernel_rfl) (by kernel_rfl) (fun _ _ _ h => h) (Or.inl ⟨by rfl, ?hy28⟩) (by assumption) ?hr28
                  case hy28 => (intro w hSw; (try dsimp only at hSw); go_simp; (try with_reducible rfl))
                  try simp only [Act.put, List.setIfInBounds_toArray, List.set_cons_zero, List.set_cons_succ]
                  refine wpAnyH_take (i := 32) (oi := ({ dst := some 166, op := Op.pick (Operand.tmp 141) (Operand.tmp 165) (Operand.const (Value.bool false)), type := 4, pos := "law.go:107", after := #[{ on := 7, ground := Ground.data }, { on := 31, ground := Ground.data }, { on := 3, ground := Ground.guard }], guard := some (3, false) } : Oper)) (v := ?hv29) rfl (by kernel_rfl) (by kernel_rfl) (by kernel_rfl) (fun _ _ _ h => h) (Or.inl ⟨by rfl, ?hy29⟩) (by assumption) ?hr29
                  case hy29 => (intro w hSw; (try dsimp only at hSw); go_simp; (try with_reducible rfl))
                  try simp only [Act.put, List.setIfInBounds_toArray, List.set_cons_zero, List.set_cons_succ]
                  refine wpAnyH_take (i := 33) (oi := ({ dst := some 167, op := Op.pick (Operand.tmp 137) (Operand.const (Value.bool true)) (Operand.tmp 166), type := 4, pos := "law.go:107", after := #[{ on := 3, ground := Ground.data }, { on := 32, ground := Ground.data }], guard := none } : Oper)) (v := ?hv30) rfl (by kernel_rfl) (by kernel_rfl) (by kernel_rfl) (fun _ _ _ h => h) (Or.inl ⟨by rfl, ?hy30⟩) (by assumption) ?hr30
                  case hy30 => (intro w hSw; (try dsimp only at hSw); go_simp; (try with_reducible rfl))
                  try simp only [Act.put, List.setIfInBounds_toArray, List.set_cons_zero, List.set_cons_succ]
                  refine wpAnyH_done (by kernel_rfl) ?_ _
                  go_wp2
                  go_roundg (od.length - (i + 1 + 1))
                  case measure => omega
                  case rel => exact ⟨i + 1 + 1, by omega, by omega, by omega, by go_num, Lib.hid (Bwd.out.trans (RC0.out.mono Bwd.out.size))⟩
                · refine wp_region_held_drew (S := (fun y => Below wd.heap.size wd y)) (by kernel_rfl) ((Below.refl wd.heap.size wd).drew) (fun hH0 => ?_)
                  generalize hx0 : World.drew _ = x0 at hH0 ⊢
                  have RC0 : Hid (Below wd.heap.size wd x0) := Lib.hid hH0
                  clear hx0
                  refine wpAnyH_take (i := 0) (oi := ({ dst := some 134, op := Op.move (Operand.tmp 14), type := 3, pos := "law.go:107", after := #[], guard := none } : Oper)) (v := ?hv31) rfl (by kernel_rfl) (by kernel_rfl) (by kernel_rfl) (fun _ _ _ h => h) (Or.inl ⟨by rfl, ?hy31⟩) (by assumption) ?hr31
                  case hy31 => (intro w hSw; (try dsimp only at hSw); go_simp; (try with_reducible rfl))
                  try simp only [Act.put, List.setIfInBounds_toArray, List.set_cons_zero, List.set_cons_succ]
                  refine wpAnyH_take (i := 1) (oi := ({ dst := some 135, op := Op.move (Operand.tmp 15), type := 3, pos := "law.go:107", after := #[], guard := none } : Oper)) (v := ?hv32) rfl (by kernel_rfl) (by kernel_rfl) (by kernel_rfl) (fun _ _ _ h => h) (Or.inl ⟨by rfl, ?hy32⟩) (by assumption) ?hr32
                  case hy32 => (intro w hSw; (try dsimp only at hSw); go_simp; (try with_reducible rfl))
                  try simp only [Act.put, List.setIfInBounds_toArray, List.set_cons_zero, List.set_cons_succ]
                  refine wpAnyH_take (i := 2) (oi := ({ dst := some 136, op := Op.binOp BinOp.lss 3 (Operand.tmp 134) (Operand.tmp 135) 3, type := 4, pos := "law.go:107", after := #[{ on := 0, ground := Ground.data }, { on := 1, ground := Ground.data }], guard := none } : Oper)) (v := ?hv33) rfl (by kernel_rfl) (by kernel_rfl) (by kernel_rfl) (fun _ _ _ h => h) (Or.inl ⟨by rfl, ?hy33⟩) (by assumption) ?hr33
                  case hy33 => (intro w hSw; (try dsimp only at hSw); go_simp; (try with_reducible rfl))
                  try simp only [Act.put, List.setIfInBounds_toArray, List.set_cons_zero, List.set_cons_succ]
                  refine wpAnyH_take (i := 3) (oi := ({ dst := some 137, op := Op.move (Operand.tmp 136), type := 4, pos := "law.go:107", after := #[{ on := 2, ground := Ground.data }], guard := none } : Oper)) (v := ?hv34) rfl (by kernel_rfl) (by kernel_rfl) (by kernel_rfl) (fun _ _ _ h => h) (Or.inl ⟨by rfl, ?hy34⟩) (by assumption) ?hr34
                  case hy34 => (intro w hSw; (try dsimp only at hSw); go_simp; (try with_reducible rfl))
                  try simp only [Act.put, List.setIfInBounds_toArray, List.set_cons_zero, List.set_cons_succ]
                  refine wpAnyH_take (i := 4) (oi := ({ dst := some 138, op := Op.move (Operand.tmp 14), type := 3, pos := "law.go:107", after := #[{ on := 3, ground := Ground.guard }], guard := some (3, false) } : Oper)) (v := ?hv35) rfl (by kernel_rfl) (by kernel_rfl) (by kernel_rfl) (fun _ _ _ h => h) (Or.inl ⟨by rfl, ?hy35⟩) (by assumption) ?hr35
                  case hy35 => (intro w hSw; (try dsimp only at hSw); go_simp; (try with_reducible rfl))
                  try simp only [Act.put, List.setIfInBounds_toArray, List.set_cons_zero, List.set_cons_succ]
                  refine wpAnyH_take (i := 5) (oi := ({ dst := some 139, op := Op.move (Operand.tmp 15), type := 3, pos := "law.go:107", after := #[{ on := 3, ground := Ground.guard }], guard := some (3, false) } : Oper)) (v := ?hv36) rfl (by kernel_rfl) (by kernel_rfl) (by kernel_rfl) (fun _ _ _ h => h) (Or.inl ⟨by rfl, ?hy36⟩) (by assumption) ?hr36
                  case hy36 => (intro w hSw; (try dsimp only at hSw); go_simp; (try with_reducible rfl))
                  try simp only [Act.put, List.setIfInBounds_toArray, List.set_cons_zero, List.set_cons_succ]
                  refine wpAnyH_take (i := 6) (oi := ({ dst := some 140, op := Op.binOp BinOp.eql 3 (Operand.tmp 138) (Operand.tmp 139) 3, type := 4, pos := "law.go:107", after := #[{ on := 4, ground := Ground.data }, { on := 5, ground := Ground.data }, { on := 3, ground := Ground.guard }], guard := some (3, false) } : Oper)) (v := ?hv37) rfl (by kernel_rfl) (by kernel_rfl) (by kernel_rfl) (fun _ _ _ h => h) (Or.inl ⟨by rfl, ?hy37⟩) (by assumption) ?hr37
                  case hy37 => (intro w hSw; (try dsimp only at hSw); go_simp; (try with_reducible rfl))
                  try simp only [Act.put, List.setIfInBounds_toArray, List.set_cons_zero, List.set_cons_succ]
                  refine wpAnyH_take (i := 7) (oi := ({ dst := some 141, op := Op.move (Operand.tmp 140), type := 4, pos := "law.go:107", after := #[{ on := 6, ground := Ground.data }, { on := 3, ground := Ground.chain }, { on := 3, ground := Ground.guard }], guard := some (3, false) } : Oper)) (v := ?hv38) rfl (by kernel_rfl) (by kernel_rfl) (by kernel_rfl) (fun _ _ _ h => h) (Or.inl ⟨by rfl, ?hy38⟩) (by assumption) ?hr38
                  case hy38 => (intro w hSw; (try dsimp only at hSw); go_simp; (try with_reducible rfl))
                  try simp only [Act.put, List.setIfInBounds_toArray, List.set_cons_zero, List.set_cons_succ]
                  refine wpAnyH_take (i := 8) (oi := ({ dst := some 142, op := Op.fieldAddr 44 (Operand.tmp 16) 6, type := 0, pos := "law.go:107", after := #[{ on := 7, ground := Ground.guard }], guard := some (7, true) } : Oper)) (v := ?hv39) rfl (by kernel_rfl) (by kernel_rfl) (by kernel_rfl) (fun _ _ _ h => h) (Or.inl ⟨by rfl, ?hy39⟩) (by assumption) ?hr39
                  case hy39 => (intro w hSw; (try dsimp only at hSw); go_simp; (try with_reducible rfl))
                  try simp only [Act.put, List.setIfInBounds_toArray, List.set_cons_zero, List.set_cons_succ]
                  refine wpAnyH_take (i := 9) (oi := ({ dst := some 143, op := Op.load 3 (Operand.tmp 142), type := 3, pos := "law.go:107", after := #[{ on := 8, ground := Ground.data }, { on := 7, ground := Ground.guard }], guard := some (7, true) } : Oper)) (v := .int .i64 p.tm) rfl (by kernel_rfl) (by kernel_rfl) (by kernel_rfl) (fun _ _ _ h => h) (Or.inl ⟨by rfl, fun w0 hw0 => by have q0 := HTp.out w0 hw0; go_simp⟩) (by assumption) ?_
                  try simp only [Act.put, List.setIfInBounds_toArray, List.set_cons_zero, List.set_cons_succ]
                  refine wpAnyH_take (i := 10) (oi := ({ dst := some 144, op := Op.fieldAddr 44 (Operand.tmp 18) 6, type := 0, pos := "law.go:107", after := #[{ on := 7, ground := Ground.guard }], guard := some (7, true) } : Oper)) (v := ?hv40) rfl (by kernel_rfl) (by kernel_rfl) (by kernel_rfl) (fun _ _ _ h => h) (Or.inl ⟨by rfl, ?hy40⟩) (by assumption) ?hr40
                  case hy40 => (intro w hSw; (try dsimp only at hSw); go_simp; (try with_reducible rfl))
                  try simp only [Act.put, List.setIfInBounds_toArray, List.set_cons_zero, List.set_cons_succ]
                  refine wpAnyH_take (i := 11) (oi := ({ dst := some 145, op := Op.load 3 (Operand.tmp 144), type := 3, pos := "law.go:107", after := #[{ on := 10, ground := Ground.data }, { on := 7, ground := Ground.guard }], guard := some (7, true) } : Oper)) (v := .int .i64 q.tm) rfl (by kernel_rfl) (by kernel_rfl) (by kernel_rfl) (fun _ _ _ h => h) (Or.inl ⟨by rfl, fun w0 hw0 => by have q0 := HTq.out w0 hw0; go_simp⟩) (by assumption) ?_
                  try simp only [Act.put, List.setIfInBounds_toArray, List.set_cons_zero, List.set_cons_succ]
                  refine wpAnyH_take (i := 12) (oi := ({ dst := some 146, op := Op.binOp BinOp.gtr 3 (Operand.tmp 143) (Operand.tmp 145) 3, type := 4, pos := "law.go:107", after := #[{ on := 9, ground := Ground.data }, { on := 11, ground := Ground.data }, { on := 7, ground := Ground.guard }], guard := some (7, true) } : Oper)) (v := ?hv41) rfl (by kernel_rfl) (by kernel_rfl) (by kernel_rfl) (fun _ _ _ h => h) (Or.inl ⟨by rfl, ?hy41⟩) (by assumption) ?hr41
                  case hy41 => (intro w hSw; (try dsimp only at hSw); go_simp; (try with_reducible rfl))
                  try simp only [Act.put, List.setIfInBounds_toArray, List.set_cons_zero, List.set_cons_succ]
                  refine wpAnyH_take (i := 13) (oi := ({ dst := some 147, op := Op.move (Operand.tmp 146), type := 4, pos := "law.go:107", after := #[{ on := 12, ground := Ground.data }, { on := 7, ground := Ground.chain }, { on := 7, ground := Ground.guard }], guard := some (7, true) } : Oper)) (v := ?hv42) rfl (by kernel_rfl) (by kernel_rfl) (by kernel_rfl) (fun _ _ _ h => h) (Or.inl ⟨by rfl, ?hy42⟩) (by assumption) ?hr42
                  case hy42 => (intro w hSw; (try dsimp only at hSw); go_simp; (try with_reducible rfl))
                  try simp only [Act.put, List.setIfInBounds_toArray, List.set_cons_zero, List.set_cons_succ]
                  refine wpAnyH_take (i := 14) (oi := ({ dst := some 148, op := Op.fieldAddr 44 (Operand.tmp 16) 6, type := 0, pos := "law.go:107", after := #[{ on := 13, ground := Ground.guard }], guard := some (13, false) } : Oper)) (v := ?hv43) rfl (by kernel_rfl) (by kernel_rfl) (by kernel_rfl) (fun _ _ _ h => h) (Or.inl ⟨by rfl, ?hy43⟩) (by assumption) ?hr43
                  case hy43 => (intro w hSw; (try dsimp only at hSw); go_simp; (try with_reducible rfl))
                  try simp only [Act.put, List.setIfInBounds_toArray, List.set_cons_zero, List.set_cons_succ]
                  refine wpAnyH_take (i := 15) (oi := ({ dst := some 149, op := Op.load 3 (Operand.tmp 148), type := 3, pos := "law.go:107", after := #[{ on := 14, ground := Ground.data }, { on := 13, ground := Ground.guard }], guard := some (13, false) } : Oper)) (v := .int .i64 p.tm) rfl (by kernel_rfl) (by kernel_rfl) (by kernel_rfl) (fun _ _ _ h => h) (Or.inl ⟨by rfl, fun w0 hw0 => by have q0 := HTp.out w0 hw0; go_simp⟩) (by assumption) ?_
                  try simp only [Act.put, List.setIfInBounds_toArray, List.set_cons_zero, List.set_cons_succ]
                  refine wpAnyH_take (i := 16) (oi := ({ dst := some 150, op := Op.fieldAddr 44 (Operand.tmp 18) 6, type := 0, pos := "law.go:107", after := #[{ on := 13, ground := Ground.guard }], guard := some (13, false) } : Oper)) (v := ?hv44) rfl (by kernel_rfl) (by kernel_rfl) (by kernel_rfl) (fun _ _ _ h => h) (Or.inl ⟨by rfl, ?hy44⟩) (by assumption) ?hr44
                  case hy44 => (intro w hSw; (try dsimp only at hSw); go_simp; (try with_reducible rfl))
                  try simp only [Act.put, List.setIfInBounds_toArray, List.set_cons_zero, List.set_cons_succ]
                  refine wpAnyH_take (i := 17) (oi := ({ dst := some 151, op := Op.load 3 (Operand.tmp 150), type := 3, pos := "law.go:107", after := #[{ on := 16, ground := Ground.data }, { on := 13, ground := Ground.guard }], guard := some (13, false) } : Oper)) (v := .int .i64 q.tm) rfl (by kernel_rfl) (by kernel_rfl) (by kernel_rfl) (fun _ _ _ h => h) (Or.inl ⟨by rfl, fun w0 hw0 => by have q0 := HTq.out w0 hw0; go_simp⟩) (by assumption) ?_
                  try simp only [Act.put, List.setIfInBounds_toArray, List.set_cons_zero, List.set_cons_succ]
                  refine wpAnyH_take (i := 18) (oi := ({ dst := some 152, op := Op.binOp BinOp.eql 3 (Operand.tmp 149) (Operand.tmp 151) 3, type := 4, pos := "law.go:107", after := #[{ on := 15, ground := Ground.data }, { on := 17, ground := Ground.data }, { on := 13, ground := Ground.guard }], guard := some (13, false) } : Oper)) (v := ?hv45) rfl (by kernel_rfl) (by kernel_rfl) (by kernel_rfl) (fun _ _ _ h => h) (Or.inl ⟨by rfl, ?hy45⟩) (by assumption) ?hr45
                  case hy45 => (intro w hSw; (try dsimp only at hSw); go_simp; (try with_reducible rfl))
                  try simp only [Act.put, List.setIfInBounds_toArray, List.set_cons_zero, List.set_cons_succ]
                  refine wpAnyH_take (i := 19) (oi := ({ dst := some 153, op := Op.move (Operand.tmp 152), type := 4, pos := "law.go:107", after := #[{ on := 18, ground := Ground.data }, { on := 13, ground := Ground.chain }, { on := 13, ground := Ground.guard }], guard := some (13, false) } : Oper)) (v := ?hv46) rfl (by kernel_rfl) (by kernel_rfl) (by kernel_rfl) (fun _ _ _ h => h) (Or.inl ⟨by rfl, ?hy46⟩) (by assumption) ?hr46
                  case hy46 => (intro w hSw; (try dsimp only at hSw); go_simp; (try with_reducible rfl))
                  try simp only [Act.put, List.setIfInBounds_toArray, List.set_cons_zero, List.set_cons_succ]
                  refine wpAnyH_take (i := 20) (oi := ({ dst := some 154, op := Op.move (Operand.tmp 7), type := 26, pos := "law.go:107", after := #[{ on := 19, ground := Ground.guard }], guard := some (19, true) } : Oper)) (v := ?hv47) rfl (by kernel_rfl) (by kernel_rfl) (by kernel_rfl) (fun _ _ _ h => h) (Or.inl ⟨by rfl, ?hy47⟩) (by assumption) ?hr47
                  case hy47 => (intro w hSw; (try dsimp only at hSw); go_simp; (try with_reducible rfl))
                  try simp only [Act.put, List.setIfInBounds_toArray, List.set_cons_zero, List.set_cons_succ]
                  refine wpAnyH_take (i := 21) (oi := ({ dst := some 155, op := Op.move (Operand.tmp 13), type := 3, pos := "law.go:107", after := #[{ on := 19, ground := Ground.guard }], guard := some (19, true) } : Oper)) (v := ?hv48) rfl (by kernel_rfl) (by kernel_rfl) (by kernel_rfl) (fun _ _ _ h => h) (Or.inl ⟨by rfl, ?hy48⟩) (by assumption) ?hr48
                  case hy48 => (intro w hSw; (try dsimp only at hSw); go_simp; (try with_reducible rfl))
                  try simp only [Act.put, List.setIfInBounds_toArray, List.set_cons_zero, List.set_cons_succ]
                  refine wpAnyH_take (i := 22) (oi := ({ dst := some 156, op := Op.binOp BinOp.sub 3 (Operand.tmp 155) (Operand.const (Value.int IntKind.i64 1)) 3, type := 3, pos := "law.go:107", after := #[{ on := 21, ground := Ground.data }, { on := 19, ground := Ground.guard }], guard := some (19, true) } : Oper)) (v := ?hv49) rfl (by kernel_rfl) (by kernel_rfl) (by kernel_rfl) (fun _ _ _ h => h) (Or.inl ⟨by rfl, ?hy49⟩) (by assumption) ?hr49
                  case hy49 => (intro w hSw; (try dsimp only at hSw); go_simp; (try with_reducible rfl))
                  try simp only [Act.put, List.setIfInBounds_toArray, List.set_cons_zero, List.set_cons_succ]
                  refine wpAnyH_take (i := 23) (oi := ({ dst := some 157, op := Op.indexAddr 26 (Operand.tmp 154) (Operand.tmp 156), type := 0, pos := "law.go:107", after := #[{ on := 20, ground := Ground.data }, { on := 22, ground := Ground.data }, { on := 19, ground := Ground.guard }], guard := some (19, true) } : Oper)) (v := ?hv50) rfl (by kernel_rfl) (by kernel_rfl) (by kernel_rfl) (fun _ _ _ h => h) (Or.inl ⟨by rfl, ?hy50⟩) (by assumption) ?hr50
                  case hy50 => (intro w hSw; (try dsimp only at hSw); go_simp; (try with_reducible rfl))
                  try simp only [Act.put, List.setIfInBounds_toArray, List.set_cons_zero, List.set_cons_succ]
                  refine wpAnyH_take (i := 24) (oi := ({ dst := some 158, op := Op.load 3 (Operand.tmp 157), type := 3, pos := "law.go:107", after := #[{ on := 23, ground := Ground.data }, { on := 19, ground := Ground.guard }], guard := some (19, true) } : Oper)) (v := .int .i64 p.id) rfl (by kernel_rfl) (by kernel_rfl) (by kernel_rfl) (fun _ _ _ h => h) (Or.inl ⟨by rfl, fun w0 hw0 => by have q0 := HQp2.out w0 hw0; go_simp⟩) (by assumption) ?_
                  try simp only [Act.put, List.setIfInBounds_toArray, List.set_cons_zero, List.set_cons_succ]
                  refine wpAnyH_take (i := 25) (oi := ({ dst := some 159, op := Op.move (Operand.tmp 7), type := 26, pos := "law.go:107", after := #[{ on := 19, ground := Ground.guard }], guard := some (19, true) } : Oper)) (v := ?hv51) rfl (by kernel_rfl) (by kernel_rfl) (by kernel_rfl) (fun _ _ _ h => h) (Or.inl ⟨by rfl, ?hy51⟩) (by assumption) ?hr51
                  case hy51 => (intro w hSw; (try dsimp only at hSw); go_simp; (try with_reducible rfl))
                  try simp only [Act.put, List.setIfInBounds_toArray, List.set_cons_zero, List.set_cons_succ]
                  refine wpAnyH_take (i := 26) (oi := ({ dst := some 160, op := Op.move (Operand.tmp 13), type := 3, pos := "law.go:107", after := #[{ on := 19, ground := Ground.guard }], guard := some (19, true) } : Oper)) (v := ?hv52) rfl (by kernel_rfl) (by kernel_rfl) (by kernel_rfl) (fun _ _ _ h => h) (Or.inl ⟨by rfl, ?hy52⟩) (by assumption) ?hr52
                  case hy52 => (intro w hSw; (try dsimp only at hSw); go_simp; (try with_reducible rfl))
                  try simp only [Act.put, List.setIfInBounds_toArray, List.set_cons_zero, List.set_cons_succ]
                  refine wpAnyH_take (i := 27) (oi := ({ dst := some 161, op := Op.indexAddr 26 (Operand.tmp 159) (Operand.tmp 160), type := 0, pos := "law.go:107", after := #[{ on := 25, ground := Ground.data }, { on := 26, ground := Ground.data }, { on := 19, ground := Ground.guard }], guard := some (19, true) } : Oper)) (v := ?hv53) rfl (by kernel_rfl) (by kernel_rfl) (by kernel_rfl) (fun _ _ _ h => h) (Or.inl ⟨by rfl, ?hy53⟩) (by assumption) ?hr53
                  case hy53 => (intro w hSw; (try dsimp only at hSw); go_simp; (try with_reducible rfl))
                  try simp only [Act.put, List.setIfInBounds_toArray, List.set_cons_zero, List.set_cons_succ]
                  refine wpAnyH_take (i := 28) (oi := ({ dst := some 162, op := Op.load 3 (Operand.tmp 161), type := 3, pos := "law.go:107", after := #[{ on := 27, ground := Ground.data }, { on := 19, ground := Ground.guard }], guard := some (19, true) } : Oper)) (v := .int .i64 q.id) rfl (by kernel_rfl) (by kernel_rfl) (by kernel_rfl) (fun _ _ _ h => h) (Or.inl ⟨by rfl, fun w0 hw0 => by have q0 := HQq2.out w0 hw0; go_simp⟩) (by assumption) ?_
                  try simp only [Act.put, List.setIfInBounds_toArray, List.set_cons_zero, List.set_cons_succ]
                  refine wpAnyH_take (i := 29) (oi := ({ dst := some 163, op := Op.binOp BinOp.geq 3 (Operand.tmp 158) (Operand.tmp 162) 3, type := 4, pos := "law.go:107", after := #[{ on := 24, ground := Ground.data }, { on := 28, ground := Ground.data }, { on := 19, ground := Ground.guard }], guard := some (19, true) } : Oper)) (v := ?hv54) rfl (by kernel_rfl) (by kernel_rfl) (by kernel_rfl) (fun _ _ _ h => h) (Or.inl ⟨by rfl, ?hy54⟩) (by assumption) ?hr54
                  case hy54 => (intro w hSw; (try dsimp only at hSw); go_simp; (try with_reducible rfl))
                  try simp only [Act.put, List.setIfInBounds_toArray, List.set_cons_zero, List.set_cons_succ]
                  refine wpAnyH_take (i := 30) (oi := ({ dst := some 164, op := Op.pick (Operand.tmp 153) (Operand.tmp 163) (Operand.const (Value.bool false)), type := 4, pos := "law.go:107", after := #[{ on := 19, ground := Ground.data }, { on := 29, ground := Ground.data }, { on := 13, ground := Ground.guard }], guard := some (13, false) } : Oper)) (v := ?hv55) rfl (by kernel_rfl) (by kernel_rfl) (by kernel_rfl) (fun _ _ _ h => h) (Or.inl ⟨by rfl, ?hy55⟩) (by assumption) ?hr55
                  case hy55 => (intro w hSw; (try dsimp only at hSw); go_simp; (try with_reducible rfl))
                  try simp only [Act.put, List.setIfInBounds_toArray, List.set_cons_zero, List.set_cons_succ]
                  refine wpAnyH_take (i := 31) (oi := ({ dst := some 165, op := Op.pick (Operand.tmp 147) (Operand.const (Value.bool true)) (Operand.tmp 164), type := 4, pos := "law.go:107", after := #[{ on := 13, ground := Ground.data }, { on := 30, ground := Ground.data }, { on := 7, ground := Ground.guard }], guard := some (7, true) } : Oper)) (v := ?hv56) rfl (by kernel_rfl) (by kernel_rfl) (by kernel_rfl) (fun _ _ _ h => h) (Or.inl ⟨by rfl, ?hy56⟩) (by assumption) ?hr56
                  case hy56 => (intro w hSw; (try dsimp only at hSw); go_simp; (try with_reducible rfl))
                  try simp only [Act.put, List.setIfInBounds_toArray, List.set_cons_zero, List.set_cons_succ]
                  refine wpAnyH_take (i := 32) (oi := ({ dst := some 166, op := Op.pick (Operand.tmp 141) (Operand.tmp 165) (Operand.const (Value.bool false)), type := 4, pos := "law.go:107", after := #[{ on := 7, ground := Ground.data }, { on := 31, ground := Ground.data }, { on := 3, ground := Ground.guard }], guard := some (3, false) } : Oper)) (v := ?hv57) rfl (by kernel_rfl) (by kernel_rfl) (by kernel_rfl) (fun _ _ _ h => h) (Or.inl ⟨by rfl, ?hy57⟩) (by assumption) ?hr57
                  case hy57 => (intro w hSw; (try dsimp only at hSw); go_simp; (try with_reducible rfl))
                  try simp only [Act.put, List.setIfInBounds_toArray, List.set_cons_zero, List.set_cons_succ]
                  refine wpAnyH_take (i := 33) (oi := ({ dst := some 167, op := Op.pick (Operand.tmp 137) (Operand.const (Value.bool true)) (Operand.tmp 166), type := 4, pos := "law.go:107", after := #[{ on := 3, ground := Ground.data }, { on := 32, ground := Ground.data }], guard := none } : Oper)) (v := ?hv58) rfl (by kernel_rfl) (by kernel_rfl) (by kernel_rfl) (fun _ _ _ h => h) (Or.inl ⟨by rfl, ?hy58⟩) (by assumption) ?hr58
                  case hy58 => (intro w hSw; (try dsimp only at hSw); go_simp; (try with_reducible rfl))
                  try simp only [Act.put, List.setIfInBounds_toArray, List.set_cons_zero, List.set_cons_succ]
                  refine wpAnyH_done (by kernel_rfl) ?_ _
                  go_wp2
                  go_roundg (od.length - (i + 1 + 1))
                  case measure => omega
                  case rel => exact ⟨i + 1 + 1, by omega, by omega, by omega, by go_num, Lib.hid (Bwd.out.trans (RC0.out.mono Bwd.out.size))⟩
              · have hl3z : ¬ (k3 : Int) < (od.length : Int) := by omega
                go_wp2_with (first
                  | (go_at_call 9; (with_reducible refine (lives9 _).mono ?_); rintro e wl ⟨rfl, hb⟩; have BL := Lib.hid (BX.out.trans (hb.mono BX.out.size)); clear hb)
                  | go_in)
                go_ret
                exact ⟨rfl, B2.out.trans ((B6.out.trans (BL.out.mono B6.out.size)).mono B2.out.size)⟩
end Go.Proofs.Ytoljlpddcpdoiaa
