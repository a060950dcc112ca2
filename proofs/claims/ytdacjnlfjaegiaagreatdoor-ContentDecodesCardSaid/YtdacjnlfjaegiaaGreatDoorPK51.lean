/- The reference's decoder of levels: its walk. Bounds: at most 800000 bytes. No condition. -/
import Derived.Test.YtdacjnlfjaegiaaGreatDoorPPd
namespace Go.Proofs.YtdacjnlfjaegiaaGreatDoor
open Go Go.RowKit
set_option linter.unusedVariables false
set_option linter.unusedSimpArgs false
set_option maxRecDepth 100000

set_option maxHeartbeats 64000000 in
theorem rlevels82_some (A0 : Option Addr) (c0 : Nat) (zs : List Int) (w : World) (h : Cd.Sl w A0 zs.length c0 zs) (hl : zs.length ≤ 800000) (n : Int) (r : List Int) (hd : Cd.di zs = some (n, r)) : Calls Tryz.prog 82 #[.slice A0 zs.length c0] w (RlP (dcL zs false) w) := by
  have hz : BZ zs := ⟨h.bd, hl⟩
  have hzr := (hz.di hd).2
  have HG := Lib.hid (show Cd.gi zs = some (.int .i64 n, r) by rw [Cd.gi_di, hd]; rfl)
  have BA := Lib.hid (((Below.refl w.heap.size w).alloc (Nat.le_refl _) (.cells #[.slice none 0 0, .slice none 0 0, .int .i64 0, .int .i64 0, .int .i64 0, .int .i64 0, .int .i64 0, .int .i64 0, .int .i64 0] 27)).alloc (by simp) (.cells #[.slice none 0 0, .slice none 0 0, .int .i64 0, .int .i64 0, .int .i64 0, .int .i64 0, .int .i64 0, .int .i64 0, .int .i64 0] 27))
  have RA := Lib.hid (show RS w (.slice none 0 0) (.slice none 0 0) (.slice none 0 0) 0 [] (.slice none 0 0) 0 [] A0 c0 zs ((w.alloc (.cells #[.slice none 0 0, .slice none 0 0, .int .i64 0, .int .i64 0, .int .i64 0, .int .i64 0, .int .i64 0, .int .i64 0, .int .i64 0] 27)).alloc (.cells #[.slice none 0 0, .slice none 0 0, .int .i64 0, .int .i64 0, .int .i64 0, .int .i64 0, .int .i64 0, .int .i64 0, .int .i64 0] 27)) from
    ⟨blk_new2 w (.cells #[.slice none 0 0, .slice none 0 0, .int .i64 0, .int .i64 0, .int .i64 0, .int .i64 0, .int .i64 0, .int .i64 0, .int .i64 0] 27) [.slice none 0 0, .slice none 0 0, .int .i64 0, .int .i64 0, .int .i64 0, .int .i64 0, .int .i64 0, .int .i64 0, .int .i64 0] 27, (blk_new w [.slice none 0 0, .slice none 0 0, .int .i64 0, .int .i64 0, .int .i64 0, .int .i64 0, .int .i64 0, .int .i64 0, .int .i64 0] 27).alloc _, World.ownsRow_nil _ _ _ _, World.ownsRow_nil _ _ _ _, h.below BA.out, h.here, BA.out⟩)
  clear h
  generalize hW : (w.alloc (.cells #[.slice none 0 0, .slice none 0 0, .int .i64 0, .int .i64 0, .int .i64 0, .int .i64 0, .int .i64 0, .int .i64 0, .int .i64 0] 27)).alloc (.cells #[.slice none 0 0, .slice none 0 0, .int .i64 0, .int .i64 0, .int .i64 0, .int .i64 0, .int .i64 0, .int .i64 0, .int .i64 0] 27) = W0 at RA BA
  by_cases hn : n < 0
  · have HN := Lib.hid (dcL_neg hd hn)
    have z0 : decide (n < 0) = true := decide_eq_true hn
    generalize dcL zs false = q at HN ⊢
    clear hd hz hzr
    go_enter Tryz.func82, Tryz.ntmps82
    go_upto_region 4 with (first
      | (go_at_call 79; refine (Cd.rgetInt_in w.heap.size _ _ _ zs hl _ RA.out.sl RA.out.inn).mono ?_; intro e w1 hgot; obtain ⟨A1, c1, rfl, hs, hi, hb⟩ := Cd.gotin_yes hgot HG.out; have RB := Lib.hid (RA.out.call hb hs hi); clear hgot hb hs hi)
      | fail)
    go_wp2_with (first
      | (refine wpList_load_mid rfl 27 _ rfl (w.heap.size + 1) 0 rfl [.slice none 0 0, .slice none 0 0, .int .i64 0, .int .i64 0, .int .i64 0, .int .i64 0, .int .i64 0, .int .i64 0, .int .i64 0] _ RB.out.lbk.range Tryz.underlying27 rfl size27 ?_)
      | (refine store_mid_as rfl 27 _ _ rfl w.heap.size 0 (#[.slice none 0 0, .slice none 0 0, .int .i64 0, .int .i64 0, .int .i64 0, .int .i64 0, .int .i64 0, .int .i64 0, .int .i64 0] : Array Value) rfl rfl (Blk.there (n := 9) RB.out.ar (Nat.le_refl 9)) size27 (by simp [Value.oneCell']) ?_; intro wz ez; have EZ := Lib.hid ez; clear ez)
      | fail)
    (try simp only [Exit.inBlock, Exit.then])
    refine bodyPost_ret (results_cell_tmp2_blk rfl _ _ w.heap.size [.slice none 0 0, .slice none 0 0, .int .i64 0, .int .i64 0, .int .i64 0, .int .i64 0, .int .i64 0, .int .i64 0, .int .i64 0] 27 _ rfl (by rw [EZ.out]; exact Blk.setAll RB.out.ar _ rfl) Tryz.underlying27 rfl size27) rfl ?_
    rw [EZ.out]
    exact rl_fail0 HN.out (below_setAll (Nat.le_refl _) _ _ _ RB.out.bel)
  · obtain ⟨m, rfl⟩ : ∃ m : Nat, n = (m : Int) := ⟨n.toNat, by omega⟩
    have HX := Lib.hid (dcL_ref hz hd)
    have hm0 : (0 : Int) ≤ (m : Int) := by omega
    have z0 : decide ((m : Int) < 0) = false := decide_eq_false hn
    generalize dcL zs false = q at HX ⊢
    clear hd hz
    go_enter Tryz.func82, Tryz.ntmps82
    go_wp2_with (first
      | (go_at_call 79; refine (Cd.rgetInt_in w.heap.size _ _ _ zs hl _ RA.out.sl RA.out.inn).mono ?_; intro e w1 hgot; obtain ⟨A1, c1, rfl, hs, hi, hb⟩ := Cd.gotin_yes hgot HG.out; have RB := Lib.hid (RA.out.call hb hs hi); clear hgot hb hs hi)
      | fail)
    clear RA
    go_loopw [0, 8, 9, 10, 11, 12, 13, 14] (fun s0 i x9 x10 x11 x12 x13 x14 wr => ∃ (k : Nat) (us : List (ByteArray × Int)) (rs : List Int) (A : Option Addr) (c : Nat) (As : Option Addr) (cs : Nat), k ≤ m ∧ i = .int .i64 (k : Int) ∧ s0 = .slice As rs.length cs ∧ Hid (Cd.Prg dU m r k us rs) ∧ Hid (us.length + rs.length ≤ r.length) ∧ Hid (RS w (.slice A us.length c) (.slice none 0 0) (.slice A us.length c) us.length (flat us.length (rowU (fU us))) (.slice none 0 0) 0 [] As cs rs wr)) (fun _ i _ _ _ _ _ _ _ => m - (intOf i).toNat)
    case atStart => exact ⟨0, [], r, none, 0, A1, c1, Nat.zero_le _, rfl, rfl, Lib.hid Cd.prg_zero, Lib.hid (by simp), RB⟩
    case round =>
      clear RB
      obtain ⟨k, us, rs, A, c, As, cs, hk, rfl, rfl, PG, HU, RR⟩ := hrel
      by_cases hlt : k < m
      · have hltz : (k : Int) < (m : Int) := by omega
        have hk0 : (0 : Int) ≤ (k : Int) := by omega
        have hrs : rs.length ≤ 800000 := Nat.le_trans PG.out.rl hzr.2
        have hzs : BZ rs := ⟨RR.out.sl.bd, hrs⟩
        have HLN := Lib.hid (show us.length ≤ 800000 by have := HU.out; have := hzr.2; omega)
        have hkb : (k : Int) ≤ 800000 := by have := PG.out.sz; have := HLN.out; omega
        cases hdt : Cd.dt rs with
        | none =>
          have HG1 := Lib.hid (show Cd.gt rs = none by rw [Cd.gt_dt, hdt]; rfl)
          have HNO := Lib.hid (show q = none by rw [HX.out, Cd.prg_none PG.out hlt (by unfold dU; rw [hdt]; rfl)]; rfl)
          clear hdt PG HX hzs
          go_wp2_with (first
            | (go_at_call 78; refine (Cd.rgetText_in w.heap.size _ _ _ rs hrs _ RR.out.sl RR.out.inn).mono ?_; intro e y1 hgot; obtain ⟨rfl, hb⟩ := Cd.gotin_no hgot HG1.out; have RT := Lib.hid (RR.out.keep hb); clear hgot hb)
            | (refine wpList_load_mid rfl 27 _ rfl (w.heap.size + 1) 0 rfl [.slice A us.length c, .slice none 0 0, .int .i64 0, .int .i64 0, .int .i64 0, .int .i64 0, .int .i64 0, .int .i64 0, .int .i64 0] _ RT.out.lbk.range Tryz.underlying27 rfl size27 ?_)
            | (refine store_mid_as rfl 27 _ _ rfl w.heap.size 0 (#[.slice A us.length c, .slice none 0 0, .int .i64 0, .int .i64 0, .int .i64 0, .int .i64 0, .int .i64 0, .int .i64 0, .int .i64 0] : Array Value) rfl rfl (Blk.there (n := 9) RT.out.ar (Nat.le_refl 9)) size27 (by simp [Value.oneCell']) ?_; intro wz ez; have EZ := Lib.hid ez; clear ez)
            | fail)
          (try simp only [Exit.inBlock, Exit.then])
          refine bodyPost_ret (results_cell_tmp2_blk rfl _ _ w.heap.size [.slice A us.length c, .slice none 0 0, .int .i64 0, .int .i64 0, .int .i64 0, .int .i64 0, .int .i64 0, .int .i64 0, .int .i64 0] 27 _ rfl (by rw [EZ.out]; exact Blk.setAll RT.out.ar _ rfl) Tryz.underlying27 rfl size27) rfl ?_
          rw [EZ.out]
          exact rl_fail (ks := []) HNO.out (below_setAll (Nat.le_refl _) _ _ _ RT.out.bel)
        | some t =>
          obtain ⟨s, r1⟩ := t
          have HG1 := Lib.hid (show Cd.gt rs = some (.string s, r1) by rw [Cd.gt_dt, hdt]; rfl)
          have hr1 : r1.length ≤ 800000 := Nat.le_trans (Cd.dt_len hdt) hrs
          cases hdi : Cd.di r1 with
          | none =>
            have HG2 := Lib.hid (show Cd.gi r1 = none by rw [Cd.gi_di, hdi]; rfl)
            have HNO := Lib.hid (show q = none by rw [HX.out, Cd.prg_none PG.out hlt (by unfold dU; rw [hdt]; simp only [Option.bind_some]; rw [hdi]; rfl)]; rfl)
            clear hdt hdi PG HX hzs
            go_wp2_with (first
              | (go_at_call 78; refine (Cd.rgetText_in w.heap.size _ _ _ rs hrs _ RR.out.sl RR.out.inn).mono ?_; intro e y1 hgot; obtain ⟨A1, c1, rfl, hs1, hi1, hb⟩ := Cd.gotin_yes hgot HG1.out; have RT := Lib.hid (RR.out.call hb hs1 hi1); clear hgot hb hs1 hi1)
              | (go_at_call 79; refine (Cd.rgetInt_in w.heap.size _ _ _ r1 hr1 _ RT.out.sl RT.out.inn).mono ?_; intro e y2 hgot; obtain ⟨rfl, hb⟩ := Cd.gotin_no hgot HG2.out; have RV := Lib.hid (RT.out.keep hb); clear hgot hb)
              | (refine wpList_load_mid rfl 27 _ rfl (w.heap.size + 1) 0 rfl [.slice A us.length c, .slice none 0 0, .int .i64 0, .int .i64 0, .int .i64 0, .int .i64 0, .int .i64 0, .int .i64 0, .int .i64 0] _ RV.out.lbk.range Tryz.underlying27 rfl size27 ?_)
              | (refine store_mid_as rfl 27 _ _ rfl w.heap.size 0 (#[.slice A us.length c, .slice none 0 0, .int .i64 0, .int .i64 0, .int .i64 0, .int .i64 0, .int .i64 0, .int .i64 0, .int .i64 0] : Array Value) rfl rfl (Blk.there (n := 9) RV.out.ar (Nat.le_refl 9)) size27 (by simp [Value.oneCell']) ?_; intro wz ez; have EZ := Lib.hid ez; clear ez)
              | fail)
            (try simp only [Exit.inBlock, Exit.then])
            refine bodyPost_ret (results_cell_tmp2_blk rfl _ _ w.heap.size [.slice A us.length c, .slice none 0 0, .int .i64 0, .int .i64 0, .int .i64 0, .int .i64 0, .int .i64 0, .int .i64 0, .int .i64 0] 27 _ rfl (by rw [EZ.out]; exact Blk.setAll RV.out.ar _ rfl) Tryz.underlying27 rfl size27) rfl ?_
            rw [EZ.out]
            exact rl_fail (ks := []) HNO.out (below_setAll (Nat.le_refl _) _ _ _ RV.out.bel)
          | some t =>
            obtain ⟨p, r2⟩ := t
            have HG2 := Lib.hid (show Cd.gi r1 = some (.int .i64 p, r2) by rw [Cd.gi_di, hdi]; rfl)
            have hdu : dU rs = some ((s, p), r2) := by unfold dU; rw [hdt]; simp only [Option.bind_some]; rw [hdi]; rfl
            have hlt2 := dU_lt hzs hdu
            have PN := Lib.hid (Cd.prg_some PG.out hlt hdu (Nat.le_of_lt hlt2))
            clear hdt hdi PG HX hzs hdu
            go_wp2_with (first
              | (go_at_call 78; refine (Cd.rgetText_in w.heap.size _ _ _ rs hrs _ RR.out.sl RR.out.inn).mono ?_; intro e y1 hgot; obtain ⟨A1, c1, rfl, hs1, hi1, hb⟩ := Cd.gotin_yes hgot HG1.out; have RT := Lib.hid (RR.out.call hb hs1 hi1); clear hgot hb hs1 hi1)
              | (go_at_call 79; refine (Cd.rgetInt_in w.heap.size _ _ _ r1 hr1 _ RT.out.sl RT.out.inn).mono ?_; intro e y2 hgot; obtain ⟨A3, c3, rfl, hs1, hi1, hb⟩ := Cd.gotin_yes hgot HG2.out; have RV := Lib.hid (RT.out.call hb hs1 hi1); have x0 := RV.out.lbk.cell (i := 0) rfl; clear hgot hb hs1 hi1)
              | (at_builtin; (with_reducible refine wpl_recU rfl (.tmp 64) (.tmp 68) ?_ ?_ ?_ (s, p) RV.out HLN.out ?_); (rfl); (rfl); (rfl); intro A2 c2 m2 y3 hm hr; have RW := Lib.hid hr; have HM := Lib.hid hm; clear hr hm x0; have x0 := RW.out.lbk.cell (i := 0) rfl; have x1 := RW.out.lbk.free 0)
              | fail)
            go_roundw
            case rel => exact ⟨k + 1, us ++ [(s, p)], r2, A2, c2, A3, c3, by omega, by go_num, rfl, PN, Lib.hid (by have := HU.out; rw [List.length_append, List.length_singleton]; omega), Lib.hid (by rw [HM.out]; exact RW.out.store1 (.slice A2 m2 c2))⟩
            case measure => simp [intOf]; omega
      · have hltz : ¬ (k : Int) < (m : Int) := by omega
        obtain rfl : k = m := by omega
        have HE := Lib.hid (Cd.prg_end PG.out)
        have HX2 := Lib.hid (show q = dc2 us rs by rw [HX.out, HE.out]; rfl)
        have hrs2 : rs.length ≤ 800000 := Nat.le_trans PG.out.rl hzr.2
        have hzs : BZ rs := ⟨RR.out.sl.bd, hrs2⟩
        have HLU := Lib.hid (show us.length ≤ 800000 by have := HU.out; have := hzr.2; omega)
        clear HE HX PG HU hk
        cases hd2 : Cd.di rs with
        | none =>
          have HG2 := Lib.hid (show Cd.gi rs = none by rw [Cd.gi_di, hd2]; rfl)
          have HNO := Lib.hid (show q = none by rw [HX2.out]; exact dc2_none hd2)
          clear hd2 HX2 hzs
          go_wp2_with (first
            | (go_at_call 79; refine (Cd.rgetInt_in w.heap.size _ _ _ rs hrs2 _ RR.out.sl RR.out.inn).mono ?_; intro e y1 hgot; obtain ⟨rfl, hb⟩ := Cd.gotin_no hgot HG2.out; have RV := Lib.hid (RR.out.keep hb); clear hgot hb)
            | (refine wpList_load_mid rfl 27 _ rfl (w.heap.size + 1) 0 rfl [.slice A us.length c, .slice none 0 0, .int .i64 0, .int .i64 0, .int .i64 0, .int .i64 0, .int .i64 0, .int .i64 0, .int .i64 0] _ RV.out.lbk.range Tryz.underlying27 rfl size27 ?_)
            | (refine store_mid_as rfl 27 _ _ rfl w.heap.size 0 (#[.slice A us.length c, .slice none 0 0, .int .i64 0, .int .i64 0, .int .i64 0, .int .i64 0, .int .i64 0, .int .i64 0, .int .i64 0] : Array Value) rfl rfl (Blk.there (n := 9) RV.out.ar (Nat.le_refl 9)) size27 (by simp [Value.oneCell']) ?_; intro wz ez; have EZ := Lib.hid ez; clear ez)
            | fail)
          (try simp only [Exit.inBlock, Exit.then])
          refine bodyPost_ret (results_cell_tmp2_blk rfl _ _ w.heap.size [.slice A us.length c, .slice none 0 0, .int .i64 0, .int .i64 0, .int .i64 0, .int .i64 0, .int .i64 0, .int .i64 0, .int .i64 0] 27 _ rfl (by rw [EZ.out]; exact Blk.setAll RV.out.ar _ rfl) Tryz.underlying27 rfl size27) rfl ?_
          rw [EZ.out]
          exact rl_fail (ks := []) HNO.out (below_setAll (Nat.le_refl _) _ _ _ RV.out.bel)
        | some t =>
          obtain ⟨n2, r2⟩ := t
          have HG2 := Lib.hid (show Cd.gi rs = some (.int .i64 n2, r2) by rw [Cd.gi_di, hd2]; rfl)
          have hzr2 := (hzs.di hd2).2
          by_cases hn2 : n2 < 0
          · have HNO := Lib.hid (show q = none by rw [HX2.out]; exact dc2_neg hd2 hn2)
            have z1 : decide (n2 < 0) = true := decide_eq_true hn2
            clear hd2 HX2 hzs
            go_wp2_with (first
              | (go_at_call 79; refine (Cd.rgetInt_in w.heap.size _ _ _ rs hrs2 _ RR.out.sl RR.out.inn).mono ?_; intro e y1 hgot; obtain ⟨A_RV, c_RV, rfl, hs1, hi1, hb⟩ := Cd.gotin_yes hgot HG2.out; have RV := Lib.hid (RR.out.call hb hs1 hi1); clear hgot hb hs1 hi1)
              | (refine wpList_load_mid rfl 27 _ rfl (w.heap.size + 1) 0 rfl [.slice A us.length c, .slice none 0 0, .int .i64 0, .int .i64 0, .int .i64 0, .int .i64 0, .int .i64 0, .int .i64 0, .int .i64 0] _ RV.out.lbk.range Tryz.underlying27 rfl size27 ?_)
              | (refine store_mid_as rfl 27 _ _ rfl w.heap.size 0 (#[.slice A us.length c, .slice none 0 0, .int .i64 0, .int .i64 0, .int .i64 0, .int .i64 0, .int .i64 0, .int .i64 0, .int .i64 0] : Array Value) rfl rfl (Blk.there (n := 9) RV.out.ar (Nat.le_refl 9)) size27 (by simp [Value.oneCell']) ?_; intro wz ez; have EZ := Lib.hid ez; clear ez)
              | fail)
            (try simp only [Exit.inBlock, Exit.then])
            refine bodyPost_ret (results_cell_tmp2_blk rfl _ _ w.heap.size [.slice A us.length c, .slice none 0 0, .int .i64 0, .int .i64 0, .int .i64 0, .int .i64 0, .int .i64 0, .int .i64 0, .int .i64 0] 27 _ rfl (by rw [EZ.out]; exact Blk.setAll RV.out.ar _ rfl) Tryz.underlying27 rfl size27) rfl ?_
            rw [EZ.out]
            exact rl_fail (ks := []) HNO.out (below_setAll (Nat.le_refl _) _ _ _ RV.out.bel)
          · obtain ⟨m2, rfl⟩ : ∃ m : Nat, n2 = (m : Int) := ⟨n2.toNat, by omega⟩
            have HX3 := Lib.hid (show q = (Cd.lst dK m2 r2).bind fun k => dc3 us k.1 k.2 by rw [HX2.out]; exact dc2_ref hzs hd2)
            have hm20 : (0 : Int) ≤ (m2 : Int) := by omega
            have z1 : decide ((m2 : Int) < 0) = false := decide_eq_false hn2
            clear hd2 HX2 hzs
            go_wp2_with (first
              | (go_at_call 79; refine (Cd.rgetInt_in w.heap.size _ _ _ rs hrs2 _ RR.out.sl RR.out.inn).mono ?_; intro e y1 hgot; obtain ⟨A_RB, c_RB, rfl, hs1, hi1, hb⟩ := Cd.gotin_yes hgot HG2.out; have RB := Lib.hid (RR.out.call hb hs1 hi1); clear hgot hb hs1 hi1)
              | fail)
            clear RR
            go_loopw [0, 15, 16, 17, 18, 19, 20, 21] (fun s0 i x9 x10 x11 x12 x13 x14 wr => ∃ (k : Nat) (ks : List (Int × Int)) (rs : List Int) (AQ : Option Addr) (cQ : Nat) (As : Option Addr) (cs : Nat), k ≤ m2 ∧ i = .int .i64 (k : Int) ∧ s0 = .slice As rs.length cs ∧ Hid (Cd.Prg dK m2 r2 k ks rs) ∧ Hid (ks.length + rs.length ≤ r2.length) ∧ Hid (RS w (.slice A us.length c) (.slice AQ ks.length cQ) (.slice A us.length c) us.length (flat us.length (rowU (fU us))) (.slice AQ ks.length cQ) ks.length (flat ks.length (rowK (fK ks))) As cs rs wr)) (fun _ i _ _ _ _ _ _ _ => m2 - (intOf i).toNat)
            case atStart => exact ⟨0, [], r2, none, 0, A_RB, c_RB, Nat.zero_le _, rfl, rfl, Lib.hid Cd.prg_zero, Lib.hid (by simp), RB⟩
            case round =>
              clear RB
              obtain ⟨k, ks, rs, AQ, cQ, As, cs, hk, rfl, rfl, PG, HU, RR⟩ := hrel
              by_cases hlt : k < m2
              · have hltz : (k : Int) < (m2 : Int) := by omega
                have hk0 : (0 : Int) ≤ (k : Int) := by omega
                have hrs : rs.length ≤ 800000 := Nat.le_trans PG.out.rl hzr2.2
                have hzs : BZ rs := ⟨RR.out.sl.bd, hrs⟩
                have HLN := Lib.hid (show ks.length ≤ 800000 by have := HU.out; have := hzr2.2; omega)
                have hkb : (k : Int) ≤ 800000 := by have := PG.out.sz; have := HLN.out; omega
                cases hdt : Cd.di rs with
                | none =>
                  have HG1 := Lib.hid (show Cd.gi rs = none by rw [Cd.gi_di, hdt]; rfl)
                  have HNO := Lib.hid (show q = none by rw [HX3.out, Cd.prg_none PG.out hlt (by unfold dK; rw [hdt]; rfl)]; rfl)
                  clear hdt PG HX3 hzs
                  go_wp2_with (first
                    | (go_at_call 79; refine (Cd.rgetInt_in w.heap.size _ _ _ rs hrs _ RR.out.sl RR.out.inn).mono ?_; intro e y1 hgot; obtain ⟨rfl, hb⟩ := Cd.gotin_no hgot HG1.out; have RT := Lib.hid (RR.out.keep hb); clear hgot hb)
                    | (refine wpList_load_mid rfl 27 _ rfl (w.heap.size + 1) 0 rfl [.slice A us.length c, .slice AQ ks.length cQ, .int .i64 0, .int .i64 0, .int .i64 0, .int .i64 0, .int .i64 0, .int .i64 0, .int .i64 0] _ RT.out.lbk.range Tryz.underlying27 rfl size27 ?_)
                    | (refine store_mid_as rfl 27 _ _ rfl w.heap.size 0 (#[.slice A us.length c, .slice AQ ks.length cQ, .int .i64 0, .int .i64 0, .int .i64 0, .int .i64 0, .int .i64 0, .int .i64 0, .int .i64 0] : Array Value) rfl rfl (Blk.there (n := 9) RT.out.ar (Nat.le_refl 9)) size27 (by simp [Value.oneCell']) ?_; intro wz ez; have EZ := Lib.hid ez; clear ez)
                    | fail)
                  (try simp only [Exit.inBlock, Exit.then])
                  refine bodyPost_ret (results_cell_tmp2_blk rfl _ _ w.heap.size [.slice A us.length c, .slice AQ ks.length cQ, .int .i64 0, .int .i64 0, .int .i64 0, .int .i64 0, .int .i64 0, .int .i64 0, .int .i64 0] 27 _ rfl (by rw [EZ.out]; exact Blk.setAll RT.out.ar _ rfl) Tryz.underlying27 rfl size27) rfl ?_
                  rw [EZ.out]
                  exact rl_fail HNO.out (below_setAll (Nat.le_refl _) _ _ _ RT.out.bel)
                | some t =>
                  obtain ⟨s, r1⟩ := t
                  have HG1 := Lib.hid (show Cd.gi rs = some (.int .i64 s, r1) by rw [Cd.gi_di, hdt]; rfl)
                  have hr1 : r1.length ≤ 800000 := Nat.le_trans (Cd.di_len hdt) hrs
                  cases hdi : Cd.di r1 with
                  | none =>
                    have HG3 := Lib.hid (show Cd.gi r1 = none by rw [Cd.gi_di, hdi]; rfl)
                    have HNO := Lib.hid (show q = none by rw [HX3.out, Cd.prg_none PG.out hlt (by unfold dK; rw [hdt]; simp only [Option.bind_some]; rw [hdi]; rfl)]; rfl)
                    clear hdt hdi PG HX3 hzs
                    go_wp2_with (first
                      | (go_at_call 79; refine (Cd.rgetInt_in w.heap.size _ _ _ rs hrs _ RR.out.sl RR.out.inn).mono ?_; intro e y1 hgot; obtain ⟨A_RT, c_RT, rfl, hs1, hi1, hb⟩ := Cd.gotin_yes hgot HG1.out; have RT := Lib.hid (RR.out.call hb hs1 hi1); clear hgot hb hs1 hi1; clear RR)
                      | (go_at_call 79; refine (Cd.rgetInt_in w.heap.size _ _ _ r1 hr1 _ RT.out.sl RT.out.inn).mono ?_; intro e y2 hgot; obtain ⟨rfl, hb⟩ := Cd.gotin_no hgot HG3.out; have RV := Lib.hid (RT.out.keep hb); clear hgot hb)
                      | (refine wpList_load_mid rfl 27 _ rfl (w.heap.size + 1) 0 rfl [.slice A us.length c, .slice AQ ks.length cQ, .int .i64 0, .int .i64 0, .int .i64 0, .int .i64 0, .int .i64 0, .int .i64 0, .int .i64 0] _ RV.out.lbk.range Tryz.underlying27 rfl size27 ?_)
                      | (refine store_mid_as rfl 27 _ _ rfl w.heap.size 0 (#[.slice A us.length c, .slice AQ ks.length cQ, .int .i64 0, .int .i64 0, .int .i64 0, .int .i64 0, .int .i64 0, .int .i64 0, .int .i64 0] : Array Value) rfl rfl (Blk.there (n := 9) RV.out.ar (Nat.le_refl 9)) size27 (by simp [Value.oneCell']) ?_; intro wz ez; have EZ := Lib.hid ez; clear ez)
                      | fail)
                    (try simp only [Exit.inBlock, Exit.then])
                    refine bodyPost_ret (results_cell_tmp2_blk rfl _ _ w.heap.size [.slice A us.length c, .slice AQ ks.length cQ, .int .i64 0, .int .i64 0, .int .i64 0, .int .i64 0, .int .i64 0, .int .i64 0, .int .i64 0] 27 _ rfl (by rw [EZ.out]; exact Blk.setAll RV.out.ar _ rfl) Tryz.underlying27 rfl size27) rfl ?_
                    rw [EZ.out]
                    exact rl_fail HNO.out (below_setAll (Nat.le_refl _) _ _ _ RV.out.bel)
                  | some t =>
                    obtain ⟨p, r3⟩ := t
                    have HG3 := Lib.hid (show Cd.gi r1 = some (.int .i64 p, r3) by rw [Cd.gi_di, hdi]; rfl)
                    have hdu : dK rs = some ((s, p), r3) := by unfold dK; rw [hdt]; simp only [Option.bind_some]; rw [hdi]; rfl
                    have hlt2 := dK_lt hzs hdu
                    have PN := Lib.hid (Cd.prg_some PG.out hlt hdu (Nat.le_of_lt hlt2))
                    clear hdt hdi PG HX3 hzs hdu
                    go_wp2_with (first
                      | (go_at_call 79; refine (Cd.rgetInt_in w.heap.size _ _ _ rs hrs _ RR.out.sl RR.out.inn).mono ?_; intro e y1 hgot; obtain ⟨A_RT, c_RT, rfl, hs1, hi1, hb⟩ := Cd.gotin_yes hgot HG1.out; have RT := Lib.hid (RR.out.call hb hs1 hi1); clear hgot hb hs1 hi1; clear RR)
                      | (go_at_call 79; refine (Cd.rgetInt_in w.heap.size _ _ _ r1 hr1 _ RT.out.sl RT.out.inn).mono ?_; intro e y2 hgot; obtain ⟨A_RV, c_RV, rfl, hs1, hi1, hb⟩ := Cd.gotin_yes hgot HG3.out; have RV := Lib.hid (RT.out.call hb hs1 hi1); clear hgot hb hs1 hi1; clear RT; have x0 := RV.out.lbk.cell (i := 1) rfl)
                      | (at_builtin; (with_reducible refine wpl_recK rfl (.tmp 109) (.tmp 113) ?_ ?_ ?_ (s, p) RV.out HLN.out ?_); (rfl); (rfl); (rfl); intro A2 c2 m3 y3 hm hr; have RW := Lib.hid hr; have HM := Lib.hid hm; clear hr hm x0; have x0 := RW.out.lbk.cell (i := 1) rfl; have x1 := RW.out.lbk.free 1)
                      | fail)
                    go_roundw
                    case rel => exact ⟨k + 1, ks ++ [(s, p)], r3, A2, c2, A_RV, c_RV, by omega, by go_num, rfl, PN, Lib.hid (by have := HU.out; rw [List.length_append, List.length_singleton]; omega), Lib.hid (by rw [HM.out]; exact RW.out.store2 (.slice A2 m3 c2))⟩
                    case measure => simp [intOf]; omega
              · have hltz : ¬ (k : Int) < (m2 : Int) := by omega
                obtain rfl : k = m2 := by omega
                have HE := Lib.hid (Cd.prg_end PG.out)
                have HX4 := Lib.hid (show q = dc3 us ks rs by rw [HX3.out, HE.out]; rfl)
                have hl3 : rs.length ≤ 800000 := Nat.le_trans PG.out.rl hzr2.2
                have PN := Lib.hid (show w.heap.size + 1 < wr.heap.size from RR.out.lbk.lt)
                have PB : Hid (Blk (wr.alloc (.cells #[.int .i64 0, .int .i64 0, .int .i64 0, .int .i64 0, .int .i64 0, .int .i64 0, .int .i64 0] 63)) wr.heap.size (p7 []) 63) := Lib.hid (blk_new wr (p7 []) 63)
                have RP := Lib.hid (RR.out.alloc (.cells #[.int .i64 0, .int .i64 0, .int .i64 0, .int .i64 0, .int .i64 0, .int .i64 0, .int .i64 0] 63))
                clear HE HX3 PG HU hk RR
                go_wp2
                generalize wr.heap.size = pb at PB PN ⊢
                go_loopw [0, 23, 24, 25, 26] (fun s0 i x1 x2 x3 wr => ∃ (k : Nat) (vs : List Int) (rk : List Int) (As : Option Addr) (cs : Nat), k ≤ 7 ∧ i = .int .i64 (k : Int) ∧ s0 = .slice As rk.length cs ∧ Hid (takes rs false k = (vs, rk, false)) ∧ Hid (Blk wr pb (p7 vs) 63) ∧ Hid (RS w (.slice A us.length c) (.slice AQ ks.length cQ) (.slice A us.length c) us.length (flat us.length (rowU (fU us))) (.slice AQ ks.length cQ) ks.length (flat ks.length (rowK (fK ks))) As cs rk wr)) (fun _ i _ _ _ _ => 7 - (intOf i).toNat)
                case atStart => exact ⟨0, [], rs, As, cs, Nat.zero_le _, rfl, rfl, Lib.hid rfl, PB, RP⟩
                case round =>
                  clear PB RP
                  obtain ⟨k, vs, rk, As, cs, hk, rfl, rfl, HT, PK, RR⟩ := hrel
                  have hvl : vs.length = k := by have := takes_len rs false k; rw [HT.out] at this; exact this
                  have hrk : rk.length ≤ 800000 := by have := takes_rest rs false k; rw [HT.out] at this; exact Nat.le_trans this hl3
                  by_cases hlt : k < 7
                  · have hltz : (k : Int) < 7 := by omega
                    have hk0 : (0 : Int) ≤ (k : Int) := by omega
                    have HS : takes rs false (k + 1) = ((takes rs false k).1 ++ [(gtkI (takes rs false k).2.1 (takes rs false k).2.2).1], (gtkI (takes rs false k).2.1 (takes rs false k).2.2).2) := rfl
                    rw [HT.out] at HS
                    dsimp only at HS
                    cases hdi : Cd.di rk with
                    | none =>
                      have HG3 := Lib.hid (show Cd.gi rk = none by rw [Cd.gi_di, hdi]; rfl)
                      have HNO := Lib.hid (show q = none by rw [HX4.out]; unfold dc3; exact if_pos (takes_more (k := k + 1) (by rw [HS, gtkI_none hdi]) 7 (by omega)))
                      clear hdi HX4 HS HT
                      go_wp2_with (first
                        | (go_at_call 79; refine (Cd.rgetInt_in w.heap.size _ _ _ rk hrk _ RR.out.sl RR.out.inn).mono ?_; intro e y1 hgot; obtain ⟨rfl, hb⟩ := Cd.gotin_no hgot HG3.out; have RV := Lib.hid (RR.out.keep hb); clear hgot hb)
                        | (refine wpList_load_mid rfl 27 _ rfl (w.heap.size + 1) 0 rfl [.slice A us.length c, .slice AQ ks.length cQ, .int .i64 0, .int .i64 0, .int .i64 0, .int .i64 0, .int .i64 0, .int .i64 0, .int .i64 0] _ RV.out.lbk.range Tryz.underlying27 rfl size27 ?_)
                        | (refine store_mid_as rfl 27 _ _ rfl w.heap.size 0 (#[.slice A us.length c, .slice AQ ks.length cQ, .int .i64 0, .int .i64 0, .int .i64 0, .int .i64 0, .int .i64 0, .int .i64 0, .int .i64 0] : Array Value) rfl rfl (Blk.there (n := 9) RV.out.ar (Nat.le_refl 9)) size27 (by simp [Value.oneCell']) ?_; intro wz ez; have EZ := Lib.hid ez; clear ez)
                        | fail)
                      (try simp only [Exit.inBlock, Exit.then])
                      refine bodyPost_ret (results_cell_tmp2_blk rfl _ _ w.heap.size [.slice A us.length c, .slice AQ ks.length cQ, .int .i64 0, .int .i64 0, .int .i64 0, .int .i64 0, .int .i64 0, .int .i64 0, .int .i64 0] 27 _ rfl (by rw [EZ.out]; exact Blk.setAll RV.out.ar _ rfl) Tryz.underlying27 rfl size27) rfl ?_
                      rw [EZ.out]
                      exact rl_fail HNO.out (below_setAll (Nat.le_refl _) _ _ _ RV.out.bel)
                    | some t =>
                      obtain ⟨v, r3⟩ := t
                      have HG3 := Lib.hid (show Cd.gi rk = some (.int .i64 v, r3) by rw [Cd.gi_di, hdi]; rfl)
                      rw [gtkI_some hdi] at HS
                      have HT2 := Lib.hid HS
                      clear hdi HX4 HS HT
                      go_wp2_with (first
                        | (go_at_call 79; refine (Cd.rgetInt_in w.heap.size _ _ _ rk hrk _ RR.out.sl RR.out.inn).mono ?_; intro e y1 hgot; obtain ⟨A_RV, c_RV, rfl, hs1, hi1, hb⟩ := Cd.gotin_yes hgot HG3.out; have RV := Lib.hid (RR.out.call hb hs1 hi1); have PV := Lib.hid (PK.out.below hb); clear RR hgot hb hs1 hi1; have x0 := PV.out.cell (i := k) (by rw [← hvl]; exact p7_at vs (by omega)); have x1 := PV.out.free k)
                        | fail)
                      go_roundw
                      case rel => exact ⟨k + 1, vs ++ [v], r3, A_RV, c_RV, by omega, by go_num, rfl, HT2, Lib.hid (by rw [← p7_set vs v (by omega), hvl]; exact PV.out.set k (.int .i64 v)), Lib.hid (RV.out.other PV.out (by decide) (by decide) PN.out k (.int .i64 v))⟩
                      case measure => simp [intOf]; omega
                  · have hltz : ¬ (k : Int) < 7 := by omega
                    obtain rfl : k = 7 := by omega
                    have HQ := Lib.hid (rl_some HX4.out HT.out)
                    have PK7 := PK.out
                    rw [p7_all hvl] at PK7
                    have DT := Lib.hid (show RT w [.slice A us.length c, .slice AQ ks.length cQ, .int .i64 0, .int .i64 0, .int .i64 0, .int .i64 0, .int .i64 0, .int .i64 0, .int .i64 0] pb [.int .i64 (vs.getD 0 0), .int .i64 (vs.getD 1 0), .int .i64 (vs.getD 2 0), .int .i64 (vs.getD 3 0), .int .i64 (vs.getD 4 0), .int .i64 (vs.getD 5 0), .int .i64 (vs.getD 6 0)] (.slice A us.length c) us.length (flat us.length (rowU (fU us))) (.slice AQ ks.length cQ) ks.length (flat ks.length (rowK (fK ks))) As cs rk wr from ⟨RR.out.lbk, PK7, PN.out, RR.out.ar, RR.out.r1, RR.out.r2, RR.out.sl, RR.out.inn, RR.out.bel⟩)
                    clear HX4 HT PK PK7 RR hvl hk hrk
                    generalize vs.getD 0 0 = q0 at DT HQ
                    generalize vs.getD 1 0 = q1 at DT HQ
                    generalize vs.getD 2 0 = q2 at DT HQ
                    generalize vs.getD 3 0 = q3 at DT HQ
                    generalize vs.getD 4 0 = q4 at DT HQ
                    generalize vs.getD 5 0 = q5 at DT HQ
                    generalize vs.getD 6 0 = q6 at DT HQ
                    go_upto_region 38 with (fail)
                    refine wp_region_held_drew (S := (fun y => Blk y pb [.int .i64 q0, .int .i64 q1, .int .i64 q2, .int .i64 q3, .int .i64 q4, .int .i64 q5, .int .i64 q6] 63)) (by kernel_rfl) (DT.out.pk.drew) (fun hH0 => ?_)
                    have D0 := Lib.hid DT.out.drew
                    generalize World.drew wr = y0 at D0 ⊢
                    have hQ0 := D0.out.pk
                    refine wpAnyH_take (i := 0) (oi := ({ dst := some 134, op := Op.indexAddr 63 (Operand.tmp 22) (Operand.const (Value.int IntKind.i64 0)), type := 0, pos := "ref.go:412", after := #[], guard := none } : Oper)) (v := ?hv1) rfl (by kernel_rfl) (by kernel_rfl) (by kernel_rfl) (fun _ _ _ h => h) (Or.inl ⟨by rfl, ?hy1⟩) (by assumption) ?hr1
                    case hy1 => (intro w hSw; (try dsimp only at hSw); go_simp; (try with_reducible rfl))
                    try simp only [Act.put, List.setIfInBounds_toArray, List.set_cons_zero, List.set_cons_succ]
                    refine wpAnyH_take (i := 1) (oi := ({ dst := some 135, op := Op.load 3 (Operand.tmp 134), type := 3, pos := "ref.go:412", after := #[{ on := 0, ground := Ground.data }], guard := none } : Oper)) (v := .int .i64 q0) rfl (by kernel_rfl) (by kernel_rfl) (by kernel_rfl) (fun _ _ _ h => h) (Or.inl ⟨by rfl, fun w0 hw0 => by have x0 := Blk.cell (i := 0) (show Blk w0 pb [.int .i64 q0, .int .i64 q1, .int .i64 q2, .int .i64 q3, .int .i64 q4, .int .i64 q5, .int .i64 q6] 63 from hw0) rfl; go_simp⟩) (by assumption) ?_
                    try simp only [Act.put, List.setIfInBounds_toArray, List.set_cons_zero, List.set_cons_succ]
                    refine wpAnyH_take (i := 2) (oi := ({ dst := some 136, op := Op.indexAddr 63 (Operand.tmp 22) (Operand.const (Value.int IntKind.i64 1)), type := 0, pos := "ref.go:412", after := #[{ on := 15, ground := Ground.gcOnly Departure.lateStores }], guard := none } : Oper)) (v := ?hv2) rfl (by kernel_rfl) (by kernel_rfl) (by kernel_rfl) (fun _ _ _ h => h) (Or.inl ⟨by rfl, ?hy2⟩) (by assumption) ?hr2
                    case hy2 => (intro w hSw; (try dsimp only at hSw); go_simp; (try with_reducible rfl))
                    try simp only [Act.put, List.setIfInBounds_toArray, List.set_cons_zero, List.set_cons_succ]
                    refine wpAnyH_take (i := 3) (oi := ({ dst := some 137, op := Op.load 3 (Operand.tmp 136), type := 3, pos := "ref.go:412", after := #[{ on := 2, ground := Ground.data }, { on := 15, ground := Ground.gcOnly Departure.lateStores }], guard := none } : Oper)) (v := .int .i64 q1) rfl (by kernel_rfl) (by kernel_rfl) (by kernel_rfl) (fun _ _ _ h => h) (Or.inl ⟨by rfl, fun w0 hw0 => by have x0 := Blk.cell (i := 1) (show Blk w0 pb [.int .i64 q0, .int .i64 q1, .int .i64 q2, .int .i64 q3, .int .i64 q4, .int .i64 q5, .int .i64 q6] 63 from hw0) rfl; go_simp⟩) (by assumption) ?_
                    try simp only [Act.put, List.setIfInBounds_toArray, List.set_cons_zero, List.set_cons_succ]
                    refine wpAnyH_take (i := 4) (oi := ({ dst := some 138, op := Op.indexAddr 63 (Operand.tmp 22) (Operand.const (Value.int IntKind.i64 2)), type := 0, pos := "ref.go:412", after := #[{ on := 17, ground := Ground.gcOnly Departure.lateStores }], guard := none } : Oper)) (v := ?hv3) rfl (by kernel_rfl) (by kernel_rfl) (by kernel_rfl) (fun _ _ _ h => h) (Or.inl ⟨by rfl, ?hy3⟩) (by assumption) ?hr3
                    case hy3 => (intro w hSw; (try dsimp only at hSw); go_simp; (try with_reducible rfl))
                    try simp only [Act.put, List.setIfInBounds_toArray, List.set_cons_zero, List.set_cons_succ]
                    refine wpAnyH_take (i := 5) (oi := ({ dst := some 139, op := Op.load 3 (Operand.tmp 138), type := 3, pos := "ref.go:412", after := #[{ on := 4, ground := Ground.data }, { on := 17, ground := Ground.gcOnly Departure.lateStores }], guard := none } : Oper)) (v := .int .i64 q2) rfl (by kernel_rfl) (by kernel_rfl) (by kernel_rfl) (fun _ _ _ h => h) (Or.inl ⟨by rfl, fun w0 hw0 => by have x0 := Blk.cell (i := 2) (show Blk w0 pb [.int .i64 q0, .int .i64 q1, .int .i64 q2, .int .i64 q3, .int .i64 q4, .int .i64 q5, .int .i64 q6] 63 from hw0) rfl; go_simp⟩) (by assumption) ?_
                    try simp only [Act.put, List.setIfInBounds_toArray, List.set_cons_zero, List.set_cons_succ]
                    refine wpAnyH_take (i := 6) (oi := ({ dst := some 140, op := Op.indexAddr 63 (Operand.tmp 22) (Operand.const (Value.int IntKind.i64 3)), type := 0, pos := "ref.go:412", after := #[{ on := 19, ground := Ground.gcOnly Departure.lateStores }], guard := none } : Oper)) (v := ?hv4) rfl (by kernel_rfl) (by kernel_rfl) (by kernel_rfl) (fun _ _ _ h => h) (Or.inl ⟨by rfl, ?hy4⟩) (by assumption) ?hr4
                    case hy4 => (intro w hSw; (try dsimp only at hSw); go_simp; (try with_reducible rfl))
                    try simp only [Act.put, List.setIfInBounds_toArray, List.set_cons_zero, List.set_cons_succ]
                    refine wpAnyH_take (i := 7) (oi := ({ dst := some 141, op := Op.load 3 (Operand.tmp 140), type := 3, pos := "ref.go:412", after := #[{ on := 6, ground := Ground.data }, { on := 19, ground := Ground.gcOnly Departure.lateStores }], guard := none } : Oper)) (v := .int .i64 q3) rfl (by kernel_rfl) (by kernel_rfl) (by kernel_rfl) (fun _ _ _ h => h) (Or.inl ⟨by rfl, fun w0 hw0 => by have x0 := Blk.cell (i := 3) (show Blk w0 pb [.int .i64 q0, .int .i64 q1, .int .i64 q2, .int .i64 q3, .int .i64 q4, .int .i64 q5, .int .i64 q6] 63 from hw0) rfl; go_simp⟩) (by assumption) ?_
                    try simp only [Act.put, List.setIfInBounds_toArray, List.set_cons_zero, List.set_cons_succ]
                    refine wpAnyH_take (i := 8) (oi := ({ dst := some 142, op := Op.indexAddr 63 (Operand.tmp 22) (Operand.const (Value.int IntKind.i64 4)), type := 0, pos := "ref.go:412", after := #[{ on := 21, ground := Ground.gcOnly Departure.lateStores }], guard := none } : Oper)) (v := ?hv5) rfl (by kernel_rfl) (by kernel_rfl) (by kernel_rfl) (fun _ _ _ h => h) (Or.inl ⟨by rfl, ?hy5⟩) (by assumption) ?hr5
                    case hy5 => (intro w hSw; (try dsimp only at hSw); go_simp; (try with_reducible rfl))
                    try simp only [Act.put, List.setIfInBounds_toArray, List.set_cons_zero, List.set_cons_succ]
                    refine wpAnyH_take (i := 9) (oi := ({ dst := some 143, op := Op.load 3 (Operand.tmp 142), type := 3, pos := "ref.go:412", after := #[{ on := 8, ground := Ground.data }, { on := 21, ground := Ground.gcOnly Departure.lateStores }], guard := none } : Oper)) (v := .int .i64 q4) rfl (by kernel_rfl) (by kernel_rfl) (by kernel_rfl) (fun _ _ _ h => h) (Or.inl ⟨by rfl, fun w0 hw0 => by have x0 := Blk.cell (i := 4) (show Blk w0 pb [.int .i64 q0, .int .i64 q1, .int .i64 q2, .int .i64 q3, .int .i64 q4, .int .i64 q5, .int .i64 q6] 63 from hw0) rfl; go_simp⟩) (by assumption) ?_
                    try simp only [Act.put, List.setIfInBounds_toArray, List.set_cons_zero, List.set_cons_succ]
                    refine wpAnyH_take (i := 10) (oi := ({ dst := some 144, op := Op.indexAddr 63 (Operand.tmp 22) (Operand.const (Value.int IntKind.i64 5)), type := 0, pos := "ref.go:412", after := #[{ on := 23, ground := Ground.gcOnly Departure.lateStores }], guard := none } : Oper)) (v := ?hv6) rfl (by kernel_rfl) (by kernel_rfl) (by kernel_rfl) (fun _ _ _ h => h) (Or.inl ⟨by rfl, ?hy6⟩) (by assumption) ?hr6
                    case hy6 => (intro w hSw; (try dsimp only at hSw); go_simp; (try with_reducible rfl))
                    try simp only [Act.put, List.setIfInBounds_toArray, List.set_cons_zero, List.set_cons_succ]
                    refine wpAnyH_take (i := 11) (oi := ({ dst := some 145, op := Op.load 3 (Operand.tmp 144), type := 3, pos := "ref.go:412", after := #[{ on := 10, ground := Ground.data }, { on := 23, ground := Ground.gcOnly Departure.lateStores }], guard := none } : Oper)) (v := .int .i64 q5) rfl (by kernel_rfl) (by kernel_rfl) (by kernel_rfl) (fun _ _ _ h => h) (Or.inl ⟨by rfl, fun w0 hw0 => by have x0 := Blk.cell (i := 5) (show Blk w0 pb [.int .i64 q0, .int .i64 q1, .int .i64 q2, .int .i64 q3, .int .i64 q4, .int .i64 q5, .int .i64 q6] 63 from hw0) rfl; go_simp⟩) (by assumption) ?_
                    try simp only [Act.put, List.setIfInBounds_toArray, List.set_cons_zero, List.set_cons_succ]
                    refine wpAnyH_take (i := 12) (oi := ({ dst := some 146, op := Op.indexAddr 63 (Operand.tmp 22) (Operand.const (Value.int IntKind.i64 6)), type := 0, pos := "ref.go:412", after := #[{ on := 25, ground := Ground.gcOnly Departure.lateStores }], guard := none } : Oper)) (v := ?hv7) rfl (by kernel_rfl) (by kernel_rfl) (by kernel_rfl) (fun _ _ _ h => h) (Or.inl ⟨by rfl, ?hy7⟩) (by assumption) ?hr7
                    case hy7 => (intro w hSw; (try dsimp only at hSw); go_simp; (try with_reducible rfl))
                    try simp only [Act.put, List.setIfInBounds_toArray, List.set_cons_zero, List.set_cons_succ]
                    refine wpAnyH_take (i := 13) (oi := ({ dst := some 147, op := Op.load 3 (Operand.tmp 146), type := 3, pos := "ref.go:412", after := #[{ on := 12, ground := Ground.data }, { on := 25, ground := Ground.gcOnly Departure.lateStores }], guard := none } : Oper)) (v := .int .i64 q6) rfl (by kernel_rfl) (by kernel_rfl) (by kernel_rfl) (fun _ _ _ h => h) (Or.inl ⟨by rfl, fun w0 hw0 => by have x0 := Blk.cell (i := 6) (show Blk w0 pb [.int .i64 q0, .int .i64 q1, .int .i64 q2, .int .i64 q3, .int .i64 q4, .int .i64 q5, .int .i64 q6] 63 from hw0) rfl; go_simp⟩) (by assumption) ?_
                    try simp only [Act.put, List.setIfInBounds_toArray, List.set_cons_zero, List.set_cons_succ]
                    refine wpAnyH_take (i := 14) (oi := ({ dst := some 148, op := Op.fieldAddr 27 (Operand.tmp 5) 2, type := 0, pos := "ref.go:412", after := #[{ on := 0, ground := Ground.phase }, { on := 1, ground := Ground.phase }, { on := 2, ground := Ground.textOnly Departure.lateStores }, { on := 3, ground := Ground.textOnly Departure.lateStores }, { on := 4, ground := Ground.textOnly Departure.lateStores }, { on := 5, ground := Ground.textOnly Departure.lateStores }, { on := 6, ground := Ground.textOnly Departure.lateStores }, { on := 7, ground := Ground.textOnly Departure.lateStores }, { on := 8, ground := Ground.textOnly Departure.lateStores }, { on := 9, ground := Ground.textOnly Departure.lateStores }, { on := 10, ground := Ground.textOnly Departure.lateStores }, { on := 11, ground := Ground.textOnly Departure.lateStores }, { on := 12, ground := Ground.textOnly Departure.lateStores }, { on := 13, ground := Ground.textOnly Departure.lateStores }], guard := none } : Oper)) (v := ?hv8) rfl (by kernel_rfl) (by kernel_rfl) (by kernel_rfl) (fun _ _ _ h => h) (Or.inl ⟨by rfl, ?hy8⟩) (by assumption) ?hr8
                    case hy8 => (intro w hSw; (try dsimp only at hSw); go_simp; (try with_reducible rfl))
                    try simp only [Act.put, List.setIfInBounds_toArray, List.set_cons_zero, List.set_cons_succ]
                    refine wpAnyH_ready (rs := [15]) (by kernel_rfl) (by simp) ?_
                    refine AllReadyH.cons (o := ({ dst := none, op := Op.store 3 (Operand.tmp 148) (Operand.tmp 135), type := 0, pos := "ref.go:412", after := #[{ on := 14, ground := Ground.data }, { on := 1, ground := Ground.data }, { on := 0, ground := Ground.phase }, { on := 1, ground := Ground.phase }, { on := 2, ground := Ground.textOnly Departure.lateStores }, { on := 3, ground := Ground.textOnly Departure.lateStores }, { on := 4, ground := Ground.textOnly Departure.lateStores }, { on := 5, ground := Ground.textOnly Departure.lateStores }, { on := 6, ground := Ground.textOnly Departure.lateStores }, { on := 7, ground := Ground.textOnly Departure.lateStores }, { on := 8, ground := Ground.textOnly Departure.lateStores }, { on := 9, ground := Ground.textOnly Departure.lateStores }, { on := 10, ground := Ground.textOnly Departure.lateStores }, { on := 11, ground := Ground.textOnly Departure.lateStores }, { on := 12, ground := Ground.textOnly Departure.lateStores }, { on := 13, ground := Ground.textOnly Departure.lateStores }], guard := none } : Oper)) rfl (fun KK hKK => ?_) AllReadyH.nil
                    have x0 := D0.out.lbk.cell (i := 2) rfl
                    have x1 := D0.out.lbk.free 2
                    go_simp
                    have D1 := Lib.hid (D0.out.set 2 (.int .i64 q0))
                    clear x0 x1
                    generalize World.setCell y0 ⟨w.heap.size + 1, 2, none⟩ _ = y1 at D1 ⊢
                    refine hKK.out _ _ (D1.out.pk) (fun hH1 => ?_)
                    clear hKK KK
                    try simp only [Act.put, List.setIfInBounds_toArray, List.set_cons_zero, List.set_cons_succ]
                    refine wpAnyH_take (i := 16) (oi := ({ dst := some 149, op := Op.fieldAddr 27 (Operand.tmp 5) 3, type := 0, pos := "ref.go:412", after := #[{ on := 0, ground := Ground.phase }, { on := 1, ground := Ground.phase }, { on := 2, ground := Ground.phase }, { on := 3, ground := Ground.phase }, { on := 4, ground := Ground.textOnly Departure.lateStores }, { on := 5, ground := Ground.textOnly Departure.lateStores }, { on := 6, ground := Ground.textOnly Departure.lateStores }, { on := 7, ground := Ground.textOnly Departure.lateStores }, { on := 8, ground := Ground.textOnly Departure.lateStores }, { on := 9, ground := Ground.textOnly Departure.lateStores }, { on := 10, ground := Ground.textOnly Departure.lateStores }, { on := 11, ground := Ground.textOnly Departure.lateStores }, { on := 12, ground := Ground.textOnly Departure.lateStores }, { on := 13, ground := Ground.textOnly Departure.lateStores }, { on := 14, ground := Ground.phase }, { on := 15, ground := Ground.phase }], guard := none } : Oper)) (v := ?hv9) rfl (by kernel_rfl) (by kernel_rfl) (by kernel_rfl) (fun _ _ _ h => h) (Or.inl ⟨by rfl, ?hy9⟩) (by assumption) ?hr9
                    case hy9 => (intro w hSw; (try dsimp only at hSw); go_simp; (try with_reducible rfl))
                    try simp only [Act.put, List.setIfInBounds_toArray, List.set_cons_zero, List.set_cons_succ]
                    refine wpAnyH_ready (rs := [17]) (by kernel_rfl) (by simp) ?_
                    refine AllReadyH.cons (o := ({ dst := none, op := Op.store 3 (Operand.tmp 149) (Operand.tmp 137), type := 0, pos := "ref.go:412", after := #[{ on := 16, ground := Ground.data }, { on := 3, ground := Ground.data }, { on := 15, ground := Ground.chain }, { on := 0, ground := Ground.phase }, { on := 1, ground := Ground.phase }, { on := 2, ground := Ground.phase }, { on := 3, ground := Ground.phase }, { on := 4, ground := Ground.textOnly Departure.lateStores }, { on := 5, ground := Ground.textOnly Departure.lateStores }, { on := 6, ground := Ground.textOnly Departure.lateStores }, { on := 7, ground := Ground.textOnly Departure.lateStores }, { on := 8, ground := Ground.textOnly Departure.lateStores }, { on := 9, ground := Ground.textOnly Departure.lateStores }, { on := 10, ground := Ground.textOnly Departure.lateStores }, { on := 11, ground := Ground.textOnly Departure.lateStores }, { on := 12, ground := Ground.textOnly Departure.lateStores }, { on := 13, ground := Ground.textOnly Departure.lateStores }, { on := 14, ground := Ground.phase }, { on := 15, ground := Ground.phase }], guard := none } : Oper)) rfl (fun KK hKK => ?_) AllReadyH.nil
                    have x0 := D1.out.lbk.cell (i := 3) rfl
                    have x1 := D1.out.lbk.free 3
                    go_simp
                    have D2 := Lib.hid (D1.out.set 3 (.int .i64 q1))
                    clear x0 x1
                    generalize World.setCell y1 ⟨w.heap.size + 1, 3, none⟩ _ = y2 at D2 ⊢
                    refine hKK.out _ _ (D2.out.pk) (fun hH2 => ?_)
                    clear hKK KK
                    try simp only [Act.put, List.setIfInBounds_toArray, List.set_cons_zero, List.set_cons_succ]
                    refine wpAnyH_take (i := 18) (oi := ({ dst := some 150, op := Op.fieldAddr 27 (Operand.tmp 5) 4, type := 0, pos := "ref.go:412", after := #[{ on := 0, ground := Ground.phase }, { on := 1, ground := Ground.phase }, { on := 2, ground := Ground.phase }, { on := 3, ground := Ground.phase }, { on := 4, ground := Ground.phase }, { on := 5, ground := Ground.phase }, { on := 6, ground := Ground.textOnly Departure.lateStores }, { on := 7, ground := Ground.textOnly Departure.lateStores }, { on := 8, ground := Ground.textOnly Departure.lateStores }, { on := 9, ground := Ground.textOnly Departure.lateStores }, { on := 10, ground := Ground.textOnly Departure.lateStores }, { on := 11, ground := Ground.textOnly Departure.lateStores }, { on := 12, ground := Ground.textOnly Departure.lateStores }, { on := 13, ground := Ground.textOnly Departure.lateStores }, { on := 14, ground := Ground.phase }, { on := 15, ground := Ground.phase }, { on := 16, ground := Ground.phase }, { on := 17, ground := Ground.phase }], guard := none } : Oper)) (v := ?hv10) rfl (by kernel_rfl) (by kernel_rfl) (by kernel_rfl) (fun _ _ _ h => h) (Or.inl ⟨by rfl, ?hy10⟩) (by assumption) ?hr10
                    case hy10 => (intro w hSw; (try dsimp only at hSw); go_simp; (try with_reducible rfl))
                    try simp only [Act.put, List.setIfInBounds_toArray, List.set_cons_zero, List.set_cons_succ]
                    refine wpAnyH_ready (rs := [19]) (by kernel_rfl) (by simp) ?_
                    refine AllReadyH.cons (o := ({ dst := none, op := Op.store 3 (Operand.tmp 150) (Operand.tmp 139), type := 0, pos := "ref.go:412", after := #[{ on := 18, ground := Ground.data }, { on := 5, ground := Ground.data }, { on := 17, ground := Ground.chain }, { on := 0, ground := Ground.phase }, { on := 1, ground := Ground.phase }, { on := 2, ground := Ground.phase }, { on := 3, ground := Ground.phase }, { on := 4, ground := Ground.phase }, { on := 5, ground := Ground.phase }, { on := 6, ground := Ground.textOnly Departure.lateStores }, { on := 7, ground := Ground.textOnly Departure.lateStores }, { on := 8, ground := Ground.textOnly Departure.lateStores }, { on := 9, ground := Ground.textOnly Departure.lateStores }, { on := 10, ground := Ground.textOnly Departure.lateStores }, { on := 11, ground := Ground.textOnly Departure.lateStores }, { on := 12, ground := Ground.textOnly Departure.lateStores }, { on := 13, ground := Ground.textOnly Departure.lateStores }, { on := 14, ground := Ground.phase }, { on := 15, ground := Ground.phase }, { on := 16, ground := Ground.phase }, { on := 17, ground := Ground.phase }], guard := none } : Oper)) rfl (fun KK hKK => ?_) AllReadyH.nil
                    have x0 := D2.out.lbk.cell (i := 4) rfl
                    have x1 := D2.out.lbk.free 4
                    go_simp
                    have D3 := Lib.hid (D2.out.set 4 (.int .i64 q2))
                    clear x0 x1
                    generalize World.setCell y2 ⟨w.heap.size + 1, 4, none⟩ _ = y3 at D3 ⊢
                    refine hKK.out _ _ (D3.out.pk) (fun hH3 => ?_)
                    clear hKK KK
                    try simp only [Act.put, List.setIfInBounds_toArray, List.set_cons_zero, List.set_cons_succ]
                    refine wpAnyH_take (i := 20) (oi := ({ dst := some 151, op := Op.fieldAddr 27 (Operand.tmp 5) 5, type := 0, pos := "ref.go:412", after := #[{ on := 0, ground := Ground.phase }, { on := 1, ground := Ground.phase }, { on := 2, ground := Ground.phase }, { on := 3, ground := Ground.phase }, { on := 4, ground := Ground.phase }, { on := 5, ground := Ground.phase }, { on := 6, ground := Ground.phase }, { on := 7, ground := Ground.phase }, { on := 8, ground := Ground.textOnly Departure.lateStores }, { on := 9, ground := Ground.textOnly Departure.lateStores }, { on := 10, ground := Ground.textOnly Departure.lateStores }, { on := 11, ground := Ground.textOnly Departure.lateStores }, { on := 12, ground := Ground.textOnly Departure.lateStores }, { on := 13, ground := Ground.textOnly Departure.lateStores }, { on := 14, ground := Ground.phase }, { on := 15, ground := Ground.phase }, { on := 16, ground := Ground.phase }, { on := 17, ground := Ground.phase }, { on := 18, ground := Ground.phase }, { on := 19, ground := Ground.phase }], guard := none } : Oper)) (v := ?hv11) rfl (by kernel_rfl) (by kernel_rfl) (by kernel_rfl) (fun _ _ _ h => h) (Or.inl ⟨by rfl, ?hy11⟩) (by assumption) ?hr11
                    case hy11 => (intro w hSw; (try dsimp only at hSw); go_simp; (try with_reducible rfl))
                    try simp only [Act.put, List.setIfInBounds_toArray, List.set_cons_zero, List.set_cons_succ]
                    refine wpAnyH_ready (rs := [21]) (by kernel_rfl) (by simp) ?_
                    refine AllReadyH.cons (o := ({ dst := none, op := Op.store 3 (Operand.tmp 151) (Operand.tmp 141), type := 0, pos := "ref.go:412", after := #[{ on := 20, ground := Ground.data }, { on := 7, ground := Ground.data }, { on := 19, ground := Ground.chain }, { on := 0, ground := Ground.phase }, { on := 1, ground := Ground.phase }, { on := 2, ground := Ground.phase }, { on := 3, ground := Ground.phase }, { on := 4, ground := Ground.phase }, { on := 5, ground := Ground.phase }, { on := 6, ground := Ground.phase }, { on := 7, ground := Ground.phase }, { on := 8, ground := Ground.textOnly Departure.lateStores }, { on := 9, ground := Ground.textOnly Departure.lateStores }, { on := 10, ground := Ground.textOnly Departure.lateStores }, { on := 11, ground := Ground.textOnly Departure.lateStores }, { on := 12, ground := Ground.textOnly Departure.lateStores }, { on := 13, ground := Ground.textOnly Departure.lateStores }, { on := 14, ground := Ground.phase }, { on := 15, ground := Ground.phase }, { on := 16, ground := Ground.phase }, { on := 17, ground := Ground.phase }, { on := 18, ground := Ground.phase }, { on := 19, ground := Ground.phase }], guard := none } : Oper)) rfl (fun KK hKK => ?_) AllReadyH.nil
                    have x0 := D3.out.lbk.cell (i := 5) rfl
                    have x1 := D3.out.lbk.free 5
                    go_simp
                    have D4 := Lib.hid (D3.out.set 5 (.int .i64 q3))
                    clear x0 x1
                    generalize World.setCell y3 ⟨w.heap.size + 1, 5, none⟩ _ = y4 at D4 ⊢
                    refine hKK.out _ _ (D4.out.pk) (fun hH4 => ?_)
                    clear hKK KK
                    try simp only [Act.put, List.setIfInBounds_toArray, List.set_cons_zero, List.set_cons_succ]
                    refine wpAnyH_take (i := 22) (oi := ({ dst := some 152, op := Op.fieldAddr 27 (Operand.tmp 5) 6, type := 0, pos := "ref.go:412", after := #[{ on := 0, ground := Ground.phase }, { on := 1, ground := Ground.phase }, { on := 2, ground := Ground.phase }, { on := 3, ground := Ground.phase }, { on := 4, ground := Ground.phase }, { on := 5, ground := Ground.phase }, { on := 6, ground := Ground.phase }, { on := 7, ground := Ground.phase }, { on := 8, ground := Ground.phase }, { on := 9, ground := Ground.phase }, { on := 10, ground := Ground.textOnly Departure.lateStores }, { on := 11, ground := Ground.textOnly Departure.lateStores }, { on := 12, ground := Ground.textOnly Departure.lateStores }, { on := 13, ground := Ground.textOnly Departure.lateStores }, { on := 14, ground := Ground.phase }, { on := 15, ground := Ground.phase }, { on := 16, ground := Ground.phase }, { on := 17, ground := Ground.phase }, { on := 18, ground := Ground.phase }, { on := 19, ground := Ground.phase }, { on := 20, ground := Ground.phase }, { on := 21, ground := Ground.phase }], guard := none } : Oper)) (v := ?hv12) rfl (by kernel_rfl) (by kernel_rfl) (by kernel_rfl) (fun _ _ _ h => h) (Or.inl ⟨by rfl, ?hy12⟩) (by assumption) ?hr12
                    case hy12 => (intro w hSw; (try dsimp only at hSw); go_simp; (try with_reducible rfl))
                    try simp only [Act.put, List.setIfInBounds_toArray, List.set_cons_zero, List.set_cons_succ]
                    refine wpAnyH_ready (rs := [23]) (by kernel_rfl) (by simp) ?_
                    refine AllReadyH.cons (o := ({ dst := none, op := Op.store 3 (Operand.tmp 152) (Operand.tmp 143), type := 0, pos := "ref.go:412", after := #[{ on := 22, ground := Ground.data }, { on := 9, ground := Ground.data }, { on := 21, ground := Ground.chain }, { on := 0, ground := Ground.phase }, { on := 1, ground := Ground.phase }, { on := 2, ground := Ground.phase }, { on := 3, ground := Ground.phase }, { on := 4, ground := Ground.phase }, { on := 5, ground := Ground.phase }, { on := 6, ground := Ground.phase }, { on := 7, ground := Ground.phase }, { on := 8, ground := Ground.phase }, { on := 9, ground := Ground.phase }, { on := 10, ground := Ground.textOnly Departure.lateStores }, { on := 11, ground := Ground.textOnly Departure.lateStores }, { on := 12, ground := Ground.textOnly Departure.lateStores }, { on := 13, ground := Ground.textOnly Departure.lateStores }, { on := 14, ground := Ground.phase }, { on := 15, ground := Ground.phase }, { on := 16, ground := Ground.phase }, { on := 17, ground := Ground.phase }, { on := 18, ground := Ground.phase }, { on := 19, ground := Ground.phase }, { on := 20, ground := Ground.phase }, { on := 21, ground := Ground.phase }], guard := none } : Oper)) rfl (fun KK hKK => ?_) AllReadyH.nil
                    have x0 := D4.out.lbk.cell (i := 6) rfl
                    have x1 := D4.out.lbk.free 6
                    go_simp
                    have D5 := Lib.hid (D4.out.set 6 (.int .i64 q4))
                    clear x0 x1
                    generalize World.setCell y4 ⟨w.heap.size + 1, 6, none⟩ _ = y5 at D5 ⊢
                    refine hKK.out _ _ (D5.out.pk) (fun hH5 => ?_)
                    clear hKK KK
                    try simp only [Act.put, List.setIfInBounds_toArray, List.set_cons_zero, List.set_cons_succ]
                    refine wpAnyH_take (i := 24) (oi := ({ dst := some 153, op := Op.fieldAddr 27 (Operand.tmp 5) 7, type := 0, pos := "ref.go:412", after := #[{ on := 0, ground := Ground.phase }, { on := 1, ground := Ground.phase }, { on := 2, ground := Ground.phase }, { on := 3, ground := Ground.phase }, { on := 4, ground := Ground.phase }, { on := 5, ground := Ground.phase }, { on := 6, ground := Ground.phase }, { on := 7, ground := Ground.phase }, { on := 8, ground := Ground.phase }, { on := 9, ground := Ground.phase }, { on := 10, ground := Ground.phase }, { on := 11, ground := Ground.phase }, { on := 12, ground := Ground.textOnly Departure.lateStores }, { on := 13, ground := Ground.textOnly Departure.lateStores }, { on := 14, ground := Ground.phase }, { on := 15, ground := Ground.phase }, { on := 16, ground := Ground.phase }, { on := 17, ground := Ground.phase }, { on := 18, ground := Ground.phase }, { on := 19, ground := Ground.phase }, { on := 20, ground := Ground.phase }, { on := 21, ground := Ground.phase }, { on := 22, ground := Ground.phase }, { on := 23, ground := Ground.phase }], guard := none } : Oper)) (v := ?hv13) rfl (by kernel_rfl) (by kernel_rfl) (by kernel_rfl) (fun _ _ _ h => h) (Or.inl ⟨by rfl, ?hy13⟩) (by assumption) ?hr13
                    case hy13 => (intro w hSw; (try dsimp only at hSw); go_simp; (try with_reducible rfl))
                    try simp only [Act.put, List.setIfInBounds_toArray, List.set_cons_zero, List.set_cons_succ]
                    refine wpAnyH_ready (rs := [25]) (by kernel_rfl) (by simp) ?_
                    refine AllReadyH.cons (o := ({ dst := none, op := Op.store 3 (Operand.tmp 153) (Operand.tmp 145), type := 0, pos := "ref.go:412", after := #[{ on := 24, ground := Ground.data }, { on := 11, ground := Ground.data }, { on := 23, ground := Ground.chain }, { on := 0, ground := Ground.phase }, { on := 1, ground := Ground.phase }, { on := 2, ground := Ground.phase }, { on := 3, ground := Ground.phase }, { on := 4, ground := Ground.phase }, { on := 5, ground := Ground.phase }, { on := 6, ground := Ground.phase }, { on := 7, ground := Ground.phase }, { on := 8, ground := Ground.phase }, { on := 9, ground := Ground.phase }, { on := 10, ground := Ground.phase }, { on := 11, ground := Ground.phase }, { on := 12, ground := Ground.textOnly Departure.lateStores }, { on := 13, ground := Ground.textOnly Departure.lateStores }, { on := 14, ground := Ground.phase }, { on := 15, ground := Ground.phase }, { on := 16, ground := Ground.phase }, { on := 17, ground := Ground.phase }, { on := 18, ground := Ground.phase }, { on := 19, ground := Ground.phase }, { on := 20, ground := Ground.phase }, { on := 21, ground := Ground.phase }, { on := 22, ground := Ground.phase }, { on := 23, ground := Ground.phase }], guard := none } : Oper)) rfl (fun KK hKK => ?_) AllReadyH.nil
                    have x0 := D5.out.lbk.cell (i := 7) rfl
                    have x1 := D5.out.lbk.free 7
                    go_simp
                    have D6 := Lib.hid (D5.out.set 7 (.int .i64 q5))
                    clear x0 x1
                    generalize World.setCell y5 ⟨w.heap.size + 1, 7, none⟩ _ = y6 at D6 ⊢
                    refine hKK.out _ _ (D6.out.pk) (fun hH6 => ?_)
                    clear hKK KK
                    try simp only [Act.put, List.setIfInBounds_toArray, List.set_cons_zero, List.set_cons_succ]
                    refine wpAnyH_take (i := 26) (oi := ({ dst := some 154, op := Op.fieldAddr 27 (Operand.tmp 5) 8, type := 0, pos := "ref.go:412", after := #[{ on := 0, ground := Ground.phase }, { on := 1, ground := Ground.phase }, { on := 2, ground := Ground.phase }, { on := 3, ground := Ground.phase }, { on := 4, ground := Ground.phase }, { on := 5, ground := Ground.phase }, { on := 6, ground := Ground.phase }, { on := 7, ground := Ground.phase }, { on := 8, ground := Ground.phase }, { on := 9, ground := Ground.phase }, { on := 10, ground := Ground.phase }, { on := 11, ground := Ground.phase }, { on := 12, ground := Ground.phase }, { on := 13, ground := Ground.phase }, { on := 14, ground := Ground.phase }, { on := 15, ground := Ground.phase }, { on := 16, ground := Ground.phase }, { on := 17, ground := Ground.phase }, { on := 18, ground := Ground.phase }, { on := 19, ground := Ground.phase }, { on := 20, ground := Ground.phase }, { on := 21, ground := Ground.phase }, { on := 22, ground := Ground.phase }, { on := 23, ground := Ground.phase }, { on := 24, ground := Ground.phase }, { on := 25, ground := Ground.phase }], guard := none } : Oper)) (v := ?hv14) rfl (by kernel_rfl) (by kernel_rfl) (by kernel_rfl) (fun _ _ _ h => h) (Or.inl ⟨by rfl, ?hy14⟩) (by assumption) ?hr14
                    case hy14 => (intro w hSw; (try dsimp only at hSw); go_simp; (try with_reducible rfl))
                    try simp only [Act.put, List.setIfInBounds_toArray, List.set_cons_zero, List.set_cons_succ]
                    refine wpAnyH_ready (rs := [27]) (by kernel_rfl) (by simp) ?_
                    refine AllReadyH.cons (o := ({ dst := none, op := Op.store 3 (Operand.tmp 154) (Operand.tmp 147), type := 0, pos := "ref.go:412", after := #[{ on := 26, ground := Ground.data }, { on := 13, ground := Ground.data }, { on := 25, ground := Ground.chain }, { on := 0, ground := Ground.phase }, { on := 1, ground := Ground.phase }, { on := 2, ground := Ground.phase }, { on := 3, ground := Ground.phase }, { on := 4, ground := Ground.phase }, { on := 5, ground := Ground.phase }, { on := 6, ground := Ground.phase }, { on := 7, ground := Ground.phase }, { on := 8, ground := Ground.phase }, { on := 9, ground := Ground.phase }, { on := 10, ground := Ground.phase }, { on := 11, ground := Ground.phase }, { on := 12, ground := Ground.phase }, { on := 13, ground := Ground.phase }, { on := 14, ground := Ground.phase }, { on := 15, ground := Ground.phase }, { on := 16, ground := Ground.phase }, { on := 17, ground := Ground.phase }, { on := 18, ground := Ground.phase }, { on := 19, ground := Ground.phase }, { on := 20, ground := Ground.phase }, { on := 21, ground := Ground.phase }, { on := 22, ground := Ground.phase }, { on := 23, ground := Ground.phase }, { on := 24, ground := Ground.phase }, { on := 25, ground := Ground.phase }], guard := none } : Oper)) rfl (fun KK hKK => ?_) AllReadyH.nil
                    have x0 := D6.out.lbk.cell (i := 8) rfl
                    have x1 := D6.out.lbk.free 8
                    go_simp
                    have D7 := Lib.hid (D6.out.set 8 (.int .i64 q6))
                    clear x0 x1
                    generalize World.setCell y6 ⟨w.heap.size + 1, 8, none⟩ _ = y7 at D7 ⊢
                    refine hKK.out _ _ (D7.out.pk) (fun hH7 => ?_)
                    clear hKK KK
                    try simp only [Act.put, List.setIfInBounds_toArray, List.set_cons_zero, List.set_cons_succ]
                    refine wpAnyH_done (by kernel_rfl) ?_ _
                    have F := Lib.hid (show Blk y7 (w.heap.size + 1) [.slice A us.length c, .slice AQ ks.length cQ, .int .i64 q0, .int .i64 q1, .int .i64 q2, .int .i64 q3, .int .i64 q4, .int .i64 q5, .int .i64 q6] 27 from D7.out.lbk)
                    go_wp2_with (first
                      | (refine wpList_load_mid rfl 27 _ rfl (w.heap.size + 1) 0 rfl [.slice A us.length c, .slice AQ ks.length cQ, .int .i64 q0, .int .i64 q1, .int .i64 q2, .int .i64 q3, .int .i64 q4, .int .i64 q5, .int .i64 q6] _ F.out.range Tryz.underlying27 rfl size27 ?_)
                      | (refine store_mid_as rfl 27 _ _ rfl w.heap.size 0 (#[.slice A us.length c, .slice AQ ks.length cQ, .int .i64 q0, .int .i64 q1, .int .i64 q2, .int .i64 q3, .int .i64 q4, .int .i64 q5, .int .i64 q6] : Array Value) rfl rfl (Blk.there (n := 9) D7.out.ar (Nat.le_refl 9)) size27 (by simp [Value.oneCell']) ?_; intro wz ez; have EZ := Lib.hid ez; clear ez)
                      | fail)
                    (try simp only [Exit.inBlock, Exit.then])
                    refine bodyPost_ret (results_cell_tmp2_blk rfl _ _ w.heap.size [.slice A us.length c, .slice AQ ks.length cQ, .int .i64 q0, .int .i64 q1, .int .i64 q2, .int .i64 q3, .int .i64 q4, .int .i64 q5, .int .i64 q6] 27 _ rfl (by rw [EZ.out]; exact Blk.setAll D7.out.ar _ rfl) Tryz.underlying27 rfl size27) rfl ?_
                    rw [EZ.out, HQ.out]
                    have hbz := below_setAll (Nat.le_refl w.heap.size) [.slice A us.length c, .slice AQ ks.length cQ, .int .i64 q0, .int .i64 q1, .int .i64 q2, .int .i64 q3, .int .i64 q4, .int .i64 q5, .int .i64 q6] 0 _ (Below.refl w.heap.size y7)
                    exact ⟨D7.out.bel.trans hbz, A, c, AQ, cQ, As, cs, rfl, D7.out.sl.under D7.out.inn hbz, own_low (row_kp D7.out.r1 (kp_all _ _ _ _) (by omega)) (by omega), own_low (row_kp D7.out.r2 (kp_all _ _ _ _) (by omega)) (by omega)⟩
end Go.Proofs.YtdacjnlfjaegiaaGreatDoor
