/- Sessions: Give of the reference. Bound: at most 900000 shares. -/
import Derived.Test.YtbkchcpfnoclhaaGreatV30
namespace Go.Proofs.YtbkchcpfnoclhaaGreat
open Go Go.RowKit
set_option linter.unusedVariables false
set_option linter.unusedSimpArgs false
set_option maxRecDepth 100000

set_option maxHeartbeats 16000000 in
theorem rgive8 (S : Ses) (A : Option Addr) (c : Nat) (u d : ByteArray) (w : World) (h : Rcs w A S.l.length c S.l) (hn : S.l.length ≤ 900000) (hu : u.size ≤ 9223372036854775807) (hd : d.size ≤ 9223372036854775807) (hcb : c ≤ 9223372036854775807) : Calls Tryz.prog 8 #[.agg #[.int .i64 S.id, .string S.rm, .int .i64 S.nx, .slice A S.l.length c], .string u, .string d] w (GiveP w (giveS S u d)) := by
  obtain ⟨id, rm, nx, l⟩ := S
  dsimp only at h hn ⊢
  have BA := Lib.hid (((Below.refl w.heap.size w).alloc (Nat.le_refl _) (.cells #[.int .i64 id, .string rm, .int .i64 nx, .slice A l.length c] 24)).alloc (by simp) (.cells #[.int .i64 0, .string ⟨#[]⟩, .int .i64 0, .slice none 0 0] 24))
  have XS := Lib.hid ((blk_new w (sC id rm nx A l.length c) 24).alloc (.cells #[.int .i64 0, .string ⟨#[]⟩, .int .i64 0, .slice none 0 0] 24))
  have XR := Lib.hid (blk_new2 w (.cells #[.int .i64 id, .string rm, .int .i64 nx, .slice A l.length c] 24) [.int .i64 0, .string ⟨#[]⟩, .int .i64 0, .slice none 0 0] 24)
  have HU := Lib.hid (ruserB u hu _ : Calls Tryz.prog 19 #[.string u] ((w.alloc (.cells #[.int .i64 id, .string rm, .int .i64 nx, .slice A l.length c] 24)).alloc (.cells #[.int .i64 0, .string ⟨#[]⟩, .int .i64 0, .slice none 0 0] 24)) _)
  have H := Lib.hid h
  have HUd := Lib.hid (And.intro hu hd)
  have hU := Lib.hid (show giveS ⟨id, rm, nx, l⟩ u d = if ¬ I.mkd 64 (bys u) = true ∨ d.size < 1 ∨ 32 < d.size then (s0, 3) else if 0 ≤ fidx (smH u d) l then (s0, 4) else if 2000 ≤ l.length then (s0, 29) else (⟨id, rm, nx, insQ (gtH u d) ⟨u, d, nx⟩ l⟩, 0) from rfl)
  generalize giveS ⟨id, rm, nx, l⟩ u d = X at hU ⊢
  clear h hu hd
  cases hm : I.mkd 64 (bys u) with
  | false =>
    have hU2 := Lib.hid (hU.out.trans (if_pos (.inl (by rw [hm]; decide))))
    rw [hm, show err false = 3 from rfl] at HU
    clear hm hU
    go_enter Tryz.func8, Tryz.ntmps8
    go_wp2_with (first
      | (go_at_call 19; (with_reducible refine HU.out.mono ?_); rintro e w1 ⟨rfl, hb⟩; have X1 := Lib.hid (XS.out.below hb); have R1 := Lib.hid (XR.out.below hb); have B1 := Lib.hid (BA.out.trans (hb.mono BA.out.size)); clear hb)
      | (refine wpList_store_mid rfl 24 _ _ rfl (w.heap.size + 1) 0 #[.int .i64 0, .string ⟨#[]⟩, .int .i64 0, .slice none 0 0] rfl rfl (Blk.there (n := 4) R1.out (by decide)) size24 (by simp [Value.oneCell']) ?_)
      | go_in)
    try simp only [Exit.inBlock, Exit.then]
    refine bodyPost_ret (results_cell_tmp_blk rfl _ _ (w.heap.size + 1) [.int .i64 0, .string ⟨#[]⟩, .int .i64 0, .slice none 0 0] 24 _ rfl (R1.out.setAll [.int .i64 0, .string ⟨#[]⟩, .int .i64 0, .slice none 0 0] rfl) Tryz.underlying24 rfl size24) rfl ?_
    rw [hU2.out]
    exact ⟨_, rfl, isS_zero _, below_setRow B1.out (Nat.le_succ _) _ _⟩
  | true =>
    rw [hm, show err true = 0 from rfl] at HU
    by_cases d1 : d.size < 1
    · have hU2 := Lib.hid (hU.out.trans (if_pos (.inr (.inl d1))))
      have g1 : (d.size : Int) < 1 := by omega
      clear hm hU
      go_enter Tryz.func8, Tryz.ntmps8
      go_wp2_with (first
        | (go_at_call 19; (with_reducible refine HU.out.mono ?_); rintro e w1 ⟨rfl, hb⟩; have X1 := Lib.hid (XS.out.below hb); have R1 := Lib.hid (XR.out.below hb); have B1 := Lib.hid (BA.out.trans (hb.mono BA.out.size)); clear hb)
        | (refine wpList_store_mid rfl 24 _ _ rfl (w.heap.size + 1) 0 #[.int .i64 0, .string ⟨#[]⟩, .int .i64 0, .slice none 0 0] rfl rfl (Blk.there (n := 4) R1.out (by decide)) size24 (by simp [Value.oneCell']) ?_)
        | go_in)
      try simp only [Exit.inBlock, Exit.then]
      refine bodyPost_ret (results_cell_tmp_blk rfl _ _ (w.heap.size + 1) [.int .i64 0, .string ⟨#[]⟩, .int .i64 0, .slice none 0 0] 24 _ rfl (R1.out.setAll [.int .i64 0, .string ⟨#[]⟩, .int .i64 0, .slice none 0 0] rfl) Tryz.underlying24 rfl size24) rfl ?_
      rw [hU2.out]
      exact ⟨_, rfl, isS_zero _, below_setRow B1.out (Nat.le_succ _) _ _⟩
    · by_cases d2 : 32 < d.size
      · have hU2 := Lib.hid (hU.out.trans (if_pos (.inr (.inr d2))))
        have g1 : ¬ (d.size : Int) < 1 := by omega
        have g2 : (32 : Int) < (d.size : Int) := by omega
        clear hm hU
        go_enter Tryz.func8, Tryz.ntmps8
        go_wp2_with (first
          | (go_at_call 19; (with_reducible refine HU.out.mono ?_); rintro e w1 ⟨rfl, hb⟩; have X1 := Lib.hid (XS.out.below hb); have R1 := Lib.hid (XR.out.below hb); have B1 := Lib.hid (BA.out.trans (hb.mono BA.out.size)); clear hb)
          | (refine wpList_store_mid rfl 24 _ _ rfl (w.heap.size + 1) 0 #[.int .i64 0, .string ⟨#[]⟩, .int .i64 0, .slice none 0 0] rfl rfl (Blk.there (n := 4) R1.out (by decide)) size24 (by simp [Value.oneCell']) ?_)
          | go_in)
        try simp only [Exit.inBlock, Exit.then]
        refine bodyPost_ret (results_cell_tmp_blk rfl _ _ (w.heap.size + 1) [.int .i64 0, .string ⟨#[]⟩, .int .i64 0, .slice none 0 0] 24 _ rfl (R1.out.setAll [.int .i64 0, .string ⟨#[]⟩, .int .i64 0, .slice none 0 0] rfl) Tryz.underlying24 rfl size24) rfl ?_
        rw [hU2.out]
        exact ⟨_, rfl, isS_zero _, below_setRow B1.out (Nat.le_succ _) _ _⟩
      · have hU1 := Lib.hid (hU.out.trans (if_neg (by rintro (h | h | h); exact h hm; omega; omega)))
        have g1 : ¬ (d.size : Int) < 1 := by omega
        have g2 : ¬ (32 : Int) < (d.size : Int) := by omega
        have HSh := Lib.hid (fun x (hb : Below w.heap.size w x) => share29 id rm nx A l.length c l u d x (H.out.below hb))
        unfold ShareP at HSh
        clear hm hU
        have g3 : (0 : Int) ≤ (d.size : Int) := by omega
        have HAy := Lib.hid (shP_any u d l)
        have HFx := Lib.hid (fidx_anyR (smH u d) l)
        generalize shP u d l = sh at HSh HAy
        obtain ⟨⟨ps, pd, pi⟩, bq⟩ := sh
        dsimp only [enc] at HSh HAy
        cases bq with
        | true =>
          have hU2 := Lib.hid (hU1.out.trans (if_pos (HFx.out.2 HAy.out.symm)))
          clear hU1 HFx HAy
          go_enter Tryz.func8, Tryz.ntmps8
          go_wp2_with (first
            | (go_at_call 19; (with_reducible refine HU.out.mono ?_); rintro e w1 ⟨rfl, hb⟩; have X1 := Lib.hid (XS.out.below hb); have R1 := Lib.hid (XR.out.below hb); have B1 := Lib.hid (BA.out.trans (hb.mono BA.out.size)); clear hb)
            | (refine wpList_load_mid rfl 24 _ rfl w.heap.size 0 rfl (sC id rm nx A l.length c) _ X1.out.range Tryz.underlying24 rfl size24 ?_)
            | (go_at_call 20; (with_reducible refine (HSh.out _ B1.out).mono ?_); rintro e w2 ⟨rfl, hb⟩; have X2 := Lib.hid (X1.out.below hb); have R2 := Lib.hid (R1.out.below hb); have B2 := Lib.hid (B1.out.trans (hb.mono B1.out.size)); clear hb)
            | (refine store_as61 rfl 36 _ _ rfl [.string ⟨#[]⟩, .string ⟨#[]⟩, .int .i64 0] [.string ps, .string pd, .int .i64 pi] rfl rfl rfl size55 (by simp [Value.oneCell']) ?_; intro w3 hx hb; have X3 := Lib.hid (X2.out.below hb); have R3 := Lib.hid (R2.out.below hb); have B3 := Lib.hid (B2.out.trans (hb.mono B2.out.size)); clear hx hb; have y3 := X3.out.cell (i := 3) rfl)
            | (refine wpList_store_mid rfl 24 _ _ rfl (w.heap.size + 1) 0 #[.int .i64 0, .string ⟨#[]⟩, .int .i64 0, .slice none 0 0] rfl rfl (Blk.there (n := 4) R3.out (by decide)) size24 (by simp [Value.oneCell']) ?_)
            | go_in)
          try simp only [Exit.inBlock, Exit.then]
          refine bodyPost_ret (results_cell_tmp_blk rfl _ _ (w.heap.size + 1) [.int .i64 0, .string ⟨#[]⟩, .int .i64 0, .slice none 0 0] 24 _ rfl (R3.out.setAll [.int .i64 0, .string ⟨#[]⟩, .int .i64 0, .slice none 0 0] rfl) Tryz.underlying24 rfl size24) rfl ?_
          rw [hU2.out]
          exact ⟨_, rfl, isS_zero _, below_setRow B3.out (Nat.le_succ _) _ _⟩
        | false =>
          have HNo := Lib.hid (show ∀ p ∈ l, smH u d p = false from fun p hp => by
            have := HAy.out
            rcases e : smH u d p with _ | _
            · rfl
            · rw [List.any_eq_true.2 ⟨p, hp, e⟩] at this; cases this)
          have hU3 := Lib.hid (hU1.out.trans (if_neg (fun h => absurd (HAy.out.trans (HFx.out.1 h)) (by decide))))
          clear hU1 HFx HAy
          by_cases hl : 2000 ≤ l.length
          · have hU2 := Lib.hid (hU3.out.trans (if_pos hl))
            have hlz : (2000 : Int) ≤ (l.length : Int) := by omega
            clear hU3
            go_enter Tryz.func8, Tryz.ntmps8
            go_wp2_with (first
              | (go_at_call 19; (with_reducible refine HU.out.mono ?_); rintro e w1 ⟨rfl, hb⟩; have X1 := Lib.hid (XS.out.below hb); have R1 := Lib.hid (XR.out.below hb); have B1 := Lib.hid (BA.out.trans (hb.mono BA.out.size)); clear hb)
              | (refine wpList_load_mid rfl 24 _ rfl w.heap.size 0 rfl (sC id rm nx A l.length c) _ X1.out.range Tryz.underlying24 rfl size24 ?_)
              | (go_at_call 20; (with_reducible refine (HSh.out _ B1.out).mono ?_); rintro e w2 ⟨rfl, hb⟩; have X2 := Lib.hid (X1.out.below hb); have R2 := Lib.hid (R1.out.below hb); have B2 := Lib.hid (B1.out.trans (hb.mono B1.out.size)); clear hb)
              | (refine store_as61 rfl 36 _ _ rfl [.string ⟨#[]⟩, .string ⟨#[]⟩, .int .i64 0] [.string ps, .string pd, .int .i64 pi] rfl rfl rfl size55 (by simp [Value.oneCell']) ?_; intro w3 hx hb; have X3 := Lib.hid (X2.out.below hb); have R3 := Lib.hid (R2.out.below hb); have B3 := Lib.hid (B2.out.trans (hb.mono B2.out.size)); clear hx hb; have y3 := X3.out.cell (i := 3) rfl)
              | (refine wpList_store_mid rfl 24 _ _ rfl (w.heap.size + 1) 0 #[.int .i64 0, .string ⟨#[]⟩, .int .i64 0, .slice none 0 0] rfl rfl (Blk.there (n := 4) R3.out (by decide)) size24 (by simp [Value.oneCell']) ?_)
              | go_in)
            try simp only [Exit.inBlock, Exit.then]
            refine bodyPost_ret (results_cell_tmp_blk rfl _ _ (w.heap.size + 1) [.int .i64 0, .string ⟨#[]⟩, .int .i64 0, .slice none 0 0] 24 _ rfl (R3.out.setAll [.int .i64 0, .string ⟨#[]⟩, .int .i64 0, .slice none 0 0] rfl) Tryz.underlying24 rfl size24) rfl ?_
            rw [hU2.out]
            exact ⟨_, rfl, isS_zero _, below_setRow B3.out (Nat.le_succ _) _ _⟩
          · have hU4 := Lib.hid (hU3.out.trans (if_neg hl))
            have hlz : ¬ (2000 : Int) ≤ (l.length : Int) := by omega
            have HCb := Lib.hid hcb
            obtain ⟨i36, hi, hz0, hz1, hz2⟩ := info_parts info44
            have HI := Lib.hid (And.intro hi (And.intro hz0 (And.intro hz1 hz2)))
            clear hU3 hi hz0 hz1 hz2
            go_enter Tryz.func8, Tryz.ntmps8
            go_upto_region 9 with (first
              | (go_at_call 19; (with_reducible refine HU.out.mono ?_); rintro e w1 ⟨rfl, hb⟩; have X1 := Lib.hid (XS.out.below hb); have R1 := Lib.hid (XR.out.below hb); have B1 := Lib.hid (BA.out.trans (hb.mono BA.out.size)); clear hb)
              | (refine wpList_load_mid rfl 24 _ rfl w.heap.size 0 rfl (sC id rm nx A l.length c) _ X1.out.range Tryz.underlying24 rfl size24 ?_)
              | (go_at_call 20; (with_reducible refine (HSh.out _ B1.out).mono ?_); rintro e w2 ⟨rfl, hb⟩; have X2 := Lib.hid (X1.out.below hb); have R2 := Lib.hid (R1.out.below hb); have B2 := Lib.hid (B1.out.trans (hb.mono B1.out.size)); clear hb)
              | (refine store_as61 rfl 36 _ _ rfl [.string ⟨#[]⟩, .string ⟨#[]⟩, .int .i64 0] [.string ps, .string pd, .int .i64 pi] rfl rfl rfl size55 (by simp [Value.oneCell']) ?_; intro w3 hx hb; have X3 := Lib.hid (X2.out.below hb); have R3 := Lib.hid (R2.out.below hb); have B3 := Lib.hid (B2.out.trans (hb.mono B2.out.size)); clear hx hb; have y3 := X3.out.cell (i := 3) rfl)
              | fail)
            clear y3
            go_wp2
            go_loopg [10] l.length (fun gg s10 wr => ∃ (k : Nat), k ≤ l.length ∧ l.length - k ≤ gg ∧ s10 = .int .i64 (k : Int) ∧ Hid (Below w.heap.size w wr) ∧ Hid (Blk wr w.heap.size (sC id rm nx A l.length c) 24) ∧ Hid (Blk wr (w.heap.size + 1) [.int .i64 0, .string ⟨#[]⟩, .int .i64 0, .slice none 0 0] 24) ∧ Hid (∀ j, j < k → gtH u d (l.getD j t0) = false))
            case atStart => exact ⟨0, Nat.zero_le _, by omega, rfl, B3, X3, R3, Lib.hid (fun j hj => absurd hj (Nat.not_lt_zero _))⟩
            case round =>
              clear B3 X3 R3
              obtain ⟨k, hk, hg, rfl, BW, XW, RW, HJ⟩ := hrel
              have y3 := XW.out.cell (i := 3) rfl
              by_cases hlt : k < l.length
              · have hltz : (k : Int) < (l.length : Int) := by omega
                have hk0 : (0 : Int) ≤ (k : Int) := by omega
                have hkl : (decide ((k : Int) < (l.length : Int))) = true := decide_eq_true hltz
                obtain ⟨b, off, eA, hbl, hr, hft⟩ := (H.out.below BW.out).get hlt
                have q0 : wr.cell? ⟨b, off + k * 3, none⟩ = some (.string (l.getD k t0).us) := hr 0 _ rfl
                have q1 : wr.cell? ⟨b, off + k * 3 + 1, none⟩ = some (.string (l.getD k t0).dv) := hr 1 _ rfl
                have HNd := Lib.hid (HNo.out (l.getD k t0) (by rw [getD_at hlt]; exact List.getElem_mem hlt))
                have HNx := Lib.hid (show gtH u d (l.getD k t0) = false → ∀ j, j < k + 1 → gtH u d (l.getD j t0) = false from fun e j hj => by
                  by_cases e2 : j = k
                  · subst e2; exact e
                  · exact HJ.out j (by omega))
                clear hr hft
                obtain ⟨p, hp⟩ : ∃ p, p = l.getD k t0 := ⟨_, rfl⟩
                have HPe := Lib.hid hp
                rw [← hp] at q0 q1 HNd HNx
                clear hp
                subst eA
                rcases t1' : Op.bytesLess p.us.toList u.toList with _ | _
                · have t1 := t1'
                  by_cases e1 : p.us = u
                  · have t2 : (p.us.toList == u.toList) = true := by rw [e1]; exact beq_self_eq_true _
                    rcases t3' : Op.bytesLess p.dv.toList d.toList with _ | _
                    · have t3 := t3'
                      have hnd : ¬ p.dv = d := fun e => absurd (smH_yes e1 e) (by rw [HNd.out]; decide)
                      have HY := Lib.hid (show gtH u d (l.getD k t0) = true by rw [← HPe.out]; exact gt_yes2 e1 t3' hnd)
                      clear HNd HNx e1 hnd t1' t3'
                      have A0 : Option Addr := some ⟨b, off, none⟩
                      clear A0
                      have HKl := Lib.hid (show k ≤ l.length by omega)
                      have HFk := Lib.hid (find_k (q := gtH u d) (l := l) (k := k) HKl.out HJ.out (by first | exact fun _ => HY.out | exact fun h => absurd h (by omega)))
                      have hU2 := Lib.hid (hU4.out.trans (by unfold insQ; rw [HFk.out] : _ = ((⟨id, rm, nx, l.take k ++ (⟨u, d, nx⟩ : Rc) :: l.drop k⟩ : Ses), (0 : Int))))
                      have HWr := Lib.hid (H.out.below BW.out)
                      have rTo : ∀ w, (Instr.sliceAt 22 (.slice (some ⟨b, off, none⟩) l.length c) none (some (.int .i64 (k : Int))) none).run Tryz.prog w = .ok (.slice (some ⟨b, off, none⟩) k c) w := fun w => run_top22 (Nat.le_trans HKl.out H.out.cap) HCb.out _ rfl w
                      obtain ⟨FX, hFr, hFs⟩ : ∃ FX, (∀ w, (Instr.sliceAt 22 (.slice (some ⟨b, off, none⟩) l.length c) (some (.int .i64 (k : Int))) none none).run Tryz.prog w = .ok (.slice FX (l.length - k) (c - k)) w) ∧ ∀ w, Rcs w (some ⟨b, off, none⟩) l.length c l → Src w FX (l.length - k) (c - k) 3 (cl (l.drop k)) := ⟨_, run_fromR HKl.out, fun w h => h.dropSrc HKl.out⟩
                      have RFs := Lib.hid hFs
                      clear hFs HJ
                      (try clear HY)
                      have E0 := Lib.hid (World.ownsRow_made (e := 36) (size := 3) wr #[] 0 (Nat.le_refl _) (by decide) (by simp))
                      have BE := Lib.hid ((Below.refl wr.heap.size wr).alloc (Nat.le_refl _) (.cells #[] 36))
                      have S1 := Lib.hid ((HWr.out.takeSrc HKl.out).below BE.out)
                      have y3 := (XW.out.below BE.out).cell (i := 3) rfl
                      go_upto_region 14 with (first
                        | (at_builtin; refine wpList_append_any _ rfl (.tmp 77) (.tmp 81) 22 rfl wr.heap.size 36 i36 _ 3 40 Tryz.underlying22 HI.out.1 HI.out.2.1 HI.out.2.2.1 HI.out.2.2.2 rfl (by decide) (.slice (some ⟨wr.heap.size, 0, none⟩) 0 0) 0 [] rfl E0.out (some ⟨b, off, none⟩) k c (cl (l.take k)) rfl S1.out (by unfold maxLen; omega) (by omega) BE.out.size ?_; intro v1 u1 hgr; have O1 := Lib.hid hgr.own; have U1 := Lib.hid (Grew.below (w0 := wr) hgr BE.out E0.out); clear hgr y3; rw [Nat.zero_add, List.nil_append] at O1; have x2 := (XW.out.below U1.out).cell (i := 2) rfl)
                        | (at_builtin; refine wpList_append_any _ rfl (.tmp 83) (.tmp 89) 22 rfl wr.heap.size 36 i36 _ 3 40 Tryz.underlying22 HI.out.1 HI.out.2.1 HI.out.2.2.1 HI.out.2.2.2 rfl (by decide) v1 k (cl (l.take k)) rfl (O1.out.alloc _) (some ⟨u1.heap.size, 0, none⟩) 1 1 (enc ⟨u, d, nx⟩) rfl (blk_src (blk_new u1 (enc ⟨u, d, nx⟩) 36)) (by unfold maxLen; omega) (by omega) (U1.out.alloc U1.out.size _).size ?_; intro v2 u2 hgr; have O2 := Lib.hid hgr.own; have U2 := Lib.hid (Grew.below (w0 := wr) hgr (U1.out.alloc U1.out.size _) (O1.out.alloc _)); clear hgr x2; have y3 := (XW.out.below U2.out).cell (i := 3) rfl; have S3 := Lib.hid (RFs.out _ (HWr.out.below U2.out)))
                        | (at_builtin; refine wpList_append_any _ rfl (.tmp 91) (.tmp 95) 22 rfl wr.heap.size 36 i36 _ 3 40 Tryz.underlying22 HI.out.1 HI.out.2.1 HI.out.2.2.1 HI.out.2.2.2 rfl (by decide) v2 (k + 1) (cl (l.take k) ++ enc ⟨u, d, nx⟩) rfl O2.out FX (l.length - k) (c - k) (cl (l.drop k)) rfl S3.out (by unfold maxLen; omega) (by omega) U2.out.size ?_; intro v3 u3 hgr; obtain ⟨A5, c5, l2, hl2, rfl, hr, hnw⟩ := put_own hgr.own HKl.out H.out.fit HUd.out hn; have HL2 := Lib.hid hl2; clear hl2; have L5 := Lib.hid hr; have NW := Lib.hid (show ∀ b off, A5 = some ⟨b, off, none⟩ → w.heap.size + 1 < b from fun b off e => Nat.lt_of_lt_of_le RW.out.lt (hnw b off e)); have U3 := Lib.hid (Grew.below (w0 := wr) hgr U2.out O2.out); clear hgr hr hnw y3; have S5 := Lib.hid (XW.out.below U3.out); have R5 := Lib.hid (RW.out.below U3.out); have B5 := Lib.hid (BW.out.trans (U3.out.mono BW.out.size)); have f3 := S5.out.free 3; have z3 := S5.out.cell (i := 3) rfl)
                        | fail)
                      generalize hwd : World.setCell _ _ _ = wd
                      have XD := Lib.hid (show Blk wd w.heap.size (sC id rm nx A5 l2.length c5) 24 by rw [← hwd]; exact S5.out.set 3 _)
                      have RD := Lib.hid (show Blk wd (w.heap.size + 1) [.int .i64 0, .string ⟨#[]⟩, .int .i64 0, .slice none 0 0] 24 by rw [← hwd]; exact R5.out.other _ _ (by simp))
                      have BD := Lib.hid (show Below w.heap.size w wd by rw [← hwd]; exact B5.out.setCell (p := ⟨w.heap.size, 3, none⟩) (Nat.le_refl _) _)
                      have LD := Lib.hid (show Rcs wd A5 l2.length c5 l2 by rw [← hwd]; exact L5.out.setRow (t := w.heap.size) (fun b off e => by have := NW.out b off e; omega) [.slice A5 l2.length c5] 3)
                      clear hwd f3 z3
                      go_wp2_with (first
                        | (refine wpList_load_mid rfl 24 _ rfl w.heap.size 0 rfl (sC id rm nx A5 l2.length c5) _ XD.out.range Tryz.underlying24 rfl size24 ?_)
                        | (refine wpList_store_mid rfl 24 _ _ rfl (w.heap.size + 1) 0 #[.int .i64 id, .string rm, .int .i64 nx, .slice A5 l2.length c5] rfl rfl (Blk.there (n := 4) RD.out (by decide)) size24 (by simp [Value.oneCell']) ?_)
                        | go_in)
                      try simp only [Exit.inBlock, Exit.then]
                      refine bodyPost_ret (results_cell_tmp_blk rfl _ _ (w.heap.size + 1) [.int .i64 id, .string rm, .int .i64 nx, .slice A5 l2.length c5] 24 _ rfl (RD.out.setAll [.int .i64 id, .string rm, .int .i64 nx, .slice A5 l2.length c5] rfl) Tryz.underlying24 rfl size24) rfl ?_
                      rw [hU2.out, ← HL2.out]
                      exact ⟨_, rfl, ⟨A5, c5, rfl, LD.out.setRow NW.out _ _⟩, below_setRow BD.out (Nat.le_succ _) _ _⟩
                    · have t3 := t3'
                      have HJ2 := Lib.hid (HNx.out (gt_no2 e1 t3'))
                      clear HNd HNx e1 t1' t3' HJ HPe
                      go_wp2
                      go_roundg (l.length - (k + 1))
                      case measure => omega
                      case rel => exact ⟨k + 1, by omega, by omega, by go_num, BW, XW, RW, HJ2⟩
                  · have t2 : (p.us.toList == u.toList) = false := beq_eq_false_iff_ne.2 (fun e => e1 (eq_of_toList e))
                    have HY := Lib.hid (show gtH u d (l.getD k t0) = true by rw [← HPe.out]; exact gt_yes1 t1' e1)
                    clear HNd HNx e1 t1'
                    have HKl := Lib.hid (show k ≤ l.length by omega)
                    have HFk := Lib.hid (find_k (q := gtH u d) (l := l) (k := k) HKl.out HJ.out (by first | exact fun _ => HY.out | exact fun h => absurd h (by omega)))
                    have hU2 := Lib.hid (hU4.out.trans (by unfold insQ; rw [HFk.out] : _ = ((⟨id, rm, nx, l.take k ++ (⟨u, d, nx⟩ : Rc) :: l.drop k⟩ : Ses), (0 : Int))))
                    have HWr := Lib.hid (H.out.below BW.out)
                    have rTo : ∀ w, (Instr.sliceAt 22 (.slice (some ⟨b, off, none⟩) l.length c) none (some (.int .i64 (k : Int))) none).run Tryz.prog w = .ok (.slice (some ⟨b, off, none⟩) k c) w := fun w => run_top22 (Nat.le_trans HKl.out H.out.cap) HCb.out _ rfl w
                    obtain ⟨FX, hFr, hFs⟩ : ∃ FX, (∀ w, (Instr.sliceAt 22 (.slice (some ⟨b, off, none⟩) l.length c) (some (.int .i64 (k : Int))) none none).run Tryz.prog w = .ok (.slice FX (l.length - k) (c - k)) w) ∧ ∀ w, Rcs w (some ⟨b, off, none⟩) l.length c l → Src w FX (l.length - k) (c - k) 3 (cl (l.drop k)) := ⟨_, run_fromR HKl.out, fun w h => h.dropSrc HKl.out⟩
                    have RFs := Lib.hid hFs
                    clear hFs HJ
                    (try clear HY)
                    have E0 := Lib.hid (World.ownsRow_made (e := 36) (size := 3) wr #[] 0 (Nat.le_refl _) (by decide) (by simp))
                    have BE := Lib.hid ((Below.refl wr.heap.size wr).alloc (Nat.le_refl _) (.cells #[] 36))
                    have S1 := Lib.hid ((HWr.out.takeSrc HKl.out).below BE.out)
                    have y3 := (XW.out.below BE.out).cell (i := 3) rfl
                    go_upto_region 14 with (first
                      | (at_builtin; refine wpList_append_any _ rfl (.tmp 77) (.tmp 81) 22 rfl wr.heap.size 36 i36 _ 3 40 Tryz.underlying22 HI.out.1 HI.out.2.1 HI.out.2.2.1 HI.out.2.2.2 rfl (by decide) (.slice (some ⟨wr.heap.size, 0, none⟩) 0 0) 0 [] rfl E0.out (some ⟨b, off, none⟩) k c (cl (l.take k)) rfl S1.out (by unfold maxLen; omega) (by omega) BE.out.size ?_; intro v1 u1 hgr; have O1 := Lib.hid hgr.own; have U1 := Lib.hid (Grew.below (w0 := wr) hgr BE.out E0.out); clear hgr y3; rw [Nat.zero_add, List.nil_append] at O1; have x2 := (XW.out.below U1.out).cell (i := 2) rfl)
                      | (at_builtin; refine wpList_append_any _ rfl (.tmp 83) (.tmp 89) 22 rfl wr.heap.size 36 i36 _ 3 40 Tryz.underlying22 HI.out.1 HI.out.2.1 HI.out.2.2.1 HI.out.2.2.2 rfl (by decide) v1 k (cl (l.take k)) rfl (O1.out.alloc _) (some ⟨u1.heap.size, 0, none⟩) 1 1 (enc ⟨u, d, nx⟩) rfl (blk_src (blk_new u1 (enc ⟨u, d, nx⟩) 36)) (by unfold maxLen; omega) (by omega) (U1.out.alloc U1.out.size _).size ?_; intro v2 u2 hgr; have O2 := Lib.hid hgr.own; have U2 := Lib.hid (Grew.below (w0 := wr) hgr (U1.out.alloc U1.out.size _) (O1.out.alloc _)); clear hgr x2; have y3 := (XW.out.below U2.out).cell (i := 3) rfl; have S3 := Lib.hid (RFs.out _ (HWr.out.below U2.out)))
                      | (at_builtin; refine wpList_append_any _ rfl (.tmp 91) (.tmp 95) 22 rfl wr.heap.size 36 i36 _ 3 40 Tryz.underlying22 HI.out.1 HI.out.2.1 HI.out.2.2.1 HI.out.2.2.2 rfl (by decide) v2 (k + 1) (cl (l.take k) ++ enc ⟨u, d, nx⟩) rfl O2.out FX (l.length - k) (c - k) (cl (l.drop k)) rfl S3.out (by unfold maxLen; omega) (by omega) U2.out.size ?_; intro v3 u3 hgr; obtain ⟨A5, c5, l2, hl2, rfl, hr, hnw⟩ := put_own hgr.own HKl.out H.out.fit HUd.out hn; have HL2 := Lib.hid hl2; clear hl2; have L5 := Lib.hid hr; have NW := Lib.hid (show ∀ b off, A5 = some ⟨b, off, none⟩ → w.heap.size + 1 < b from fun b off e => Nat.lt_of_lt_of_le RW.out.lt (hnw b off e)); have U3 := Lib.hid (Grew.below (w0 := wr) hgr U2.out O2.out); clear hgr hr hnw y3; have S5 := Lib.hid (XW.out.below U3.out); have R5 := Lib.hid (RW.out.below U3.out); have B5 := Lib.hid (BW.out.trans (U3.out.mono BW.out.size)); have f3 := S5.out.free 3; have z3 := S5.out.cell (i := 3) rfl)
                      | fail)
                    generalize hwd : World.setCell _ _ _ = wd
                    have XD := Lib.hid (show Blk wd w.heap.size (sC id rm nx A5 l2.length c5) 24 by rw [← hwd]; exact S5.out.set 3 _)
                    have RD := Lib.hid (show Blk wd (w.heap.size + 1) [.int .i64 0, .string ⟨#[]⟩, .int .i64 0, .slice none 0 0] 24 by rw [← hwd]; exact R5.out.other _ _ (by simp))
                    have BD := Lib.hid (show Below w.heap.size w wd by rw [← hwd]; exact B5.out.setCell (p := ⟨w.heap.size, 3, none⟩) (Nat.le_refl _) _)
                    have LD := Lib.hid (show Rcs wd A5 l2.length c5 l2 by rw [← hwd]; exact L5.out.setRow (t := w.heap.size) (fun b off e => by have := NW.out b off e; omega) [.slice A5 l2.length c5] 3)
                    clear hwd f3 z3
                    go_wp2_with (first
                      | (refine wpList_load_mid rfl 24 _ rfl w.heap.size 0 rfl (sC id rm nx A5 l2.length c5) _ XD.out.range Tryz.underlying24 rfl size24 ?_)
                      | (refine wpList_store_mid rfl 24 _ _ rfl (w.heap.size + 1) 0 #[.int .i64 id, .string rm, .int .i64 nx, .slice A5 l2.length c5] rfl rfl (Blk.there (n := 4) RD.out (by decide)) size24 (by simp [Value.oneCell']) ?_)
                      | go_in)
                    try simp only [Exit.inBlock, Exit.then]
                    refine bodyPost_ret (results_cell_tmp_blk rfl _ _ (w.heap.size + 1) [.int .i64 id, .string rm, .int .i64 nx, .slice A5 l2.length c5] 24 _ rfl (RD.out.setAll [.int .i64 id, .string rm, .int .i64 nx, .slice A5 l2.length c5] rfl) Tryz.underlying24 rfl size24) rfl ?_
                    rw [hU2.out, ← HL2.out]
                    exact ⟨_, rfl, ⟨A5, c5, rfl, LD.out.setRow NW.out _ _⟩, below_setRow BD.out (Nat.le_succ _) _ _⟩
                · have t1 := t1'
                  have HJ2 := Lib.hid (HNx.out (gt_no1 t1'))
                  clear HNd HNx t1' HJ HPe
                  go_wp2
                  go_roundg (l.length - (k + 1))
                  case measure => omega
                  case rel => exact ⟨k + 1, by omega, by omega, by go_num, BW, XW, RW, HJ2⟩
              · have hltz : ¬ (k : Int) < (l.length : Int) := by omega
                have hkl : (decide ((k : Int) < (l.length : Int))) = false := decide_eq_false hltz
                clear HNo
                have HKl := Lib.hid (show k ≤ l.length by omega)
                have HFk := Lib.hid (find_k (q := gtH u d) (l := l) (k := k) HKl.out HJ.out (by first | exact fun _ => HY.out | exact fun h => absurd h (by omega)))
                have hU2 := Lib.hid (hU4.out.trans (by unfold insQ; rw [HFk.out] : _ = ((⟨id, rm, nx, l.take k ++ (⟨u, d, nx⟩ : Rc) :: l.drop k⟩ : Ses), (0 : Int))))
                have HWr := Lib.hid (H.out.below BW.out)
                have rTo : ∀ w, (Instr.sliceAt 22 (.slice A l.length c) none (some (.int .i64 (k : Int))) none).run Tryz.prog w = .ok (.slice A k c) w := fun w => run_top22 (Nat.le_trans HKl.out H.out.cap) HCb.out _ rfl w
                obtain ⟨FX, hFr, hFs⟩ : ∃ FX, (∀ w, (Instr.sliceAt 22 (.slice A l.length c) (some (.int .i64 (k : Int))) none none).run Tryz.prog w = .ok (.slice FX (l.length - k) (c - k)) w) ∧ ∀ w, Rcs w A l.length c l → Src w FX (l.length - k) (c - k) 3 (cl (l.drop k)) := ⟨_, run_fromR HKl.out, fun w h => h.dropSrc HKl.out⟩
                have RFs := Lib.hid hFs
                clear hFs HJ
                (try clear HY)
                have E0 := Lib.hid (World.ownsRow_made (e := 36) (size := 3) wr #[] 0 (Nat.le_refl _) (by decide) (by simp))
                have BE := Lib.hid ((Below.refl wr.heap.size wr).alloc (Nat.le_refl _) (.cells #[] 36))
                have S1 := Lib.hid ((HWr.out.takeSrc HKl.out).below BE.out)
                have y3 := (XW.out.below BE.out).cell (i := 3) rfl
                go_upto_region 14 with (first
                  | (at_builtin; refine wpList_append_any _ rfl (.tmp 77) (.tmp 81) 22 rfl wr.heap.size 36 i36 _ 3 40 Tryz.underlying22 HI.out.1 HI.out.2.1 HI.out.2.2.1 HI.out.2.2.2 rfl (by decide) (.slice (some ⟨wr.heap.size, 0, none⟩) 0 0) 0 [] rfl E0.out A k c (cl (l.take k)) rfl S1.out (by unfold maxLen; omega) (by omega) BE.out.size ?_; intro v1 u1 hgr; have O1 := Lib.hid hgr.own; have U1 := Lib.hid (Grew.below (w0 := wr) hgr BE.out E0.out); clear hgr y3; rw [Nat.zero_add, List.nil_append] at O1; have x2 := (XW.out.below U1.out).cell (i := 2) rfl)
                  | (at_builtin; refine wpList_append_any _ rfl (.tmp 83) (.tmp 89) 22 rfl wr.heap.size 36 i36 _ 3 40 Tryz.underlying22 HI.out.1 HI.out.2.1 HI.out.2.2.1 HI.out.2.2.2 rfl (by decide) v1 k (cl (l.take k)) rfl (O1.out.alloc _) (some ⟨u1.heap.size, 0, none⟩) 1 1 (enc ⟨u, d, nx⟩) rfl (blk_src (blk_new u1 (enc ⟨u, d, nx⟩) 36)) (by unfold maxLen; omega) (by omega) (U1.out.alloc U1.out.size _).size ?_; intro v2 u2 hgr; have O2 := Lib.hid hgr.own; have U2 := Lib.hid (Grew.below (w0 := wr) hgr (U1.out.alloc U1.out.size _) (O1.out.alloc _)); clear hgr x2; have y3 := (XW.out.below U2.out).cell (i := 3) rfl; have S3 := Lib.hid (RFs.out _ (HWr.out.below U2.out)))
                  | (at_builtin; refine wpList_append_any _ rfl (.tmp 91) (.tmp 95) 22 rfl wr.heap.size 36 i36 _ 3 40 Tryz.underlying22 HI.out.1 HI.out.2.1 HI.out.2.2.1 HI.out.2.2.2 rfl (by decide) v2 (k + 1) (cl (l.take k) ++ enc ⟨u, d, nx⟩) rfl O2.out FX (l.length - k) (c - k) (cl (l.drop k)) rfl S3.out (by unfold maxLen; omega) (by omega) U2.out.size ?_; intro v3 u3 hgr; obtain ⟨A5, c5, l2, hl2, rfl, hr, hnw⟩ := put_own hgr.own HKl.out H.out.fit HUd.out hn; have HL2 := Lib.hid hl2; clear hl2; have L5 := Lib.hid hr; have NW := Lib.hid (show ∀ b off, A5 = some ⟨b, off, none⟩ → w.heap.size + 1 < b from fun b off e => Nat.lt_of_lt_of_le RW.out.lt (hnw b off e)); have U3 := Lib.hid (Grew.below (w0 := wr) hgr U2.out O2.out); clear hgr hr hnw y3; have S5 := Lib.hid (XW.out.below U3.out); have R5 := Lib.hid (RW.out.below U3.out); have B5 := Lib.hid (BW.out.trans (U3.out.mono BW.out.size)); have f3 := S5.out.free 3; have z3 := S5.out.cell (i := 3) rfl)
                  | fail)
                generalize hwd : World.setCell _ _ _ = wd
                have XD := Lib.hid (show Blk wd w.heap.size (sC id rm nx A5 l2.length c5) 24 by rw [← hwd]; exact S5.out.set 3 _)
                have RD := Lib.hid (show Blk wd (w.heap.size + 1) [.int .i64 0, .string ⟨#[]⟩, .int .i64 0, .slice none 0 0] 24 by rw [← hwd]; exact R5.out.other _ _ (by simp))
                have BD := Lib.hid (show Below w.heap.size w wd by rw [← hwd]; exact B5.out.setCell (p := ⟨w.heap.size, 3, none⟩) (Nat.le_refl _) _)
                have LD := Lib.hid (show Rcs wd A5 l2.length c5 l2 by rw [← hwd]; exact L5.out.setRow (t := w.heap.size) (fun b off e => by have := NW.out b off e; omega) [.slice A5 l2.length c5] 3)
                clear hwd f3 z3
                go_wp2_with (first
                  | (refine wpList_load_mid rfl 24 _ rfl w.heap.size 0 rfl (sC id rm nx A5 l2.length c5) _ XD.out.range Tryz.underlying24 rfl size24 ?_)
                  | (refine wpList_store_mid rfl 24 _ _ rfl (w.heap.size + 1) 0 #[.int .i64 id, .string rm, .int .i64 nx, .slice A5 l2.length c5] rfl rfl (Blk.there (n := 4) RD.out (by decide)) size24 (by simp [Value.oneCell']) ?_)
                  | go_in)
                try simp only [Exit.inBlock, Exit.then]
                refine bodyPost_ret (results_cell_tmp_blk rfl _ _ (w.heap.size + 1) [.int .i64 id, .string rm, .int .i64 nx, .slice A5 l2.length c5] 24 _ rfl (RD.out.setAll [.int .i64 id, .string rm, .int .i64 nx, .slice A5 l2.length c5] rfl) Tryz.underlying24 rfl size24) rfl ?_
                rw [hU2.out, ← HL2.out]
                exact ⟨_, rfl, ⟨A5, c5, rfl, LD.out.setRow NW.out _ _⟩, below_setRow BD.out (Nat.le_succ _) _ _⟩
end Go.Proofs.YtbkchcpfnoclhaaGreat
