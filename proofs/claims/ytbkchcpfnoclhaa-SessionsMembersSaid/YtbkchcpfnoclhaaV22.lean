/- SessionsMembers: its walk. -/
import Derived.Test.YtbkchcpfnoclhaaV20
namespace Go.Proofs.Ytbkchcpfnoclhaa
open Go Go.RowKit
set_option linter.unusedVariables false
set_option linter.unusedSimpArgs false
set_option maxRecDepth 100000

theorem stl_self (hl : List Hd.Rc) : stlB (shL hl 0) hl = false := stl_no (fun j hj => by
  rw [shL_len] at hj
  rw [shL_at hj]
  refine hsH_iff.2 ?_
  rw [Hd.getD_at hj]
  exact List.getElem_mem hj)
theorem want_self (hl : List Hd.Rc) (nx : Int) : wantL (shL hl 0) nx hl = [] := by
  unfold wantL
  rw [List.filter_eq_nil_iff.2 (fun h hm => ?_)]
  · rfl
  · have : hsS (shL hl 0) (h.us, h.dv) = true := by
      unfold hsS shL
      exact List.any_eq_true.2 ⟨_, List.mem_map.2 ⟨h, hm, rfl⟩, decide_eq_true rfl⟩
    rw [this]
    decide
theorem rd_self (hl : List Hd.Rc) (u d : ByteArray) : rdB (shL hl 0) 1 u d 0 = (shL hl 0).any (smH u d) := by
  rw [rdB_sh, ← shP_any]
  unfold shP
  rcases h : (shL hl 0).find? (smH u d) with _ | p
  · rfl
  · have hm := List.mem_of_find?_eq_some h
    unfold shL at hm
    obtain ⟨q, _, rfl⟩ := List.mem_map.1 hm
    rfl
theorem use_self (rm : ByteArray) (l : List Rc) : useS ⟨7, rm, 0, l⟩ 10 = (⟨7, rm, 1, l⟩, 0, 0) := by
  unfold useS
  rw [if_neg (by dsimp only; omega), if_neg (by dsimp only; omega)]
  rfl
theorem any_succ {l : List Rc} {q : Rc → Bool} {k : Nat} (hk : k < l.length) : (l.take (k + 1)).any q = ((l.take k).any q || q (l.getD k t0)) := by
  rw [List.take_succ_eq_append_getElem hk, List.any_append, getD_at hk]
  simp
set_option maxHeartbeats 16000000 in
theorem members_walk (S : Ses) (A : Option Addr) (c : Nat) (A1 : Option Addr) (n1 c1 : Nat) (ms : List ByteArray) (A2 : Option Addr) (n2 c2 : Nat) (K : Nat → Kd) (yu zd : ByteArray) (w : World) (h : Rcs w A S.l.length c S.l) (hrm : S.rm.size ≤ 9223372036854775807) (hm : Strs w A1 n1 ms) (hc1 : n1 ≤ c1) (hK : Kys w A2 n2 K) (hyu : yu.size ≤ 9223372036854775807) (hzd : zd.size ≤ 9223372036854775807) : Calls Try.prog 7 #[.agg #[.int .i64 S.id, .string S.rm, .int .i64 S.nx, .slice A S.l.length c], .agg #[.slice A1 n1 c1, .slice A2 n2 c2], .agg #[.string yu, .string zd]] w fun r w' => r = .returned (.bool true) ∧ Below w.heap.size w w' := by
  have XS := Lib.hid (((blk_new w (sC S.id S.rm S.nx A S.l.length c) 24).alloc (.cells #[.slice A1 n1 c1, .slice A2 n2 c2] 42)).alloc (.cells #[.string yu, .string zd] 26))
  have XT := Lib.hid ((blk_new2 w (.cells #[.int .i64 S.id, .string S.rm, .int .i64 S.nx, .slice A S.l.length c] 24) [.slice A1 n1 c1, .slice A2 n2 c2] 42).alloc (.cells #[.string yu, .string zd] 26))
  have XV := Lib.hid (blk_new3 w (.cells #[.int .i64 S.id, .string S.rm, .int .i64 S.nx, .slice A S.l.length c] 24) (.cells #[.slice A1 n1 c1, .slice A2 n2 c2] 42) [.string yu, .string zd] 26)
  have BA := Lib.hid ((((Below.refl w.heap.size w).alloc (Nat.le_refl _) (.cells #[.int .i64 S.id, .string S.rm, .int .i64 S.nx, .slice A S.l.length c] 24)).alloc (by simp) (.cells #[.slice A1 n1 c1, .slice A2 n2 c2] 42)).alloc (by simp only [World.size_alloc]; omega) (.cells #[.string yu, .string zd] 26))
  have HG := Lib.hid (great9 S.id S.rm S.nx A c S.l 40 _ (h.below BA.out) hrm)
  have HM := Lib.hid (fun y (hb : Below w.heap.size w y) => many16 A1 n1 c1 ms A2 n2 c2 K y (hm.below hb) hm.2.1 (hK.below hb))
  have HW := Lib.hid (fun (h1 : n1 ≤ 1000) (h2 : n2 ≤ 900000) (hd : ∀ j, j < n2 → (K j).ds.length ≤ 900) y (hb : Below w.heap.size w y) => renew22 S.id S.rm S.nx A S.l.length c A1 n1 c1 ms A2 n2 c2 K 7 y (hm.below hb) hc1 h1 (hK.below hb) hd)
  have HSt := Lib.hid (fun (h1 : n1 ≤ 1000) (h2 : n2 ≤ 900000) (hd : ∀ j, j < n2 → (K j).ds.length ≤ 900) (AX : Option Addr) (cX : Nat) y (hr : Rcs y AX (shL (holdL ms (dvI K n2)) 0).length cX (shL (holdL ms (dvI K n2)) 0)) (hb : Below w.heap.size w y) => stale20 7 S.rm 0 AX _ cX _ A1 n1 c1 ms A2 n2 c2 K y hr (hm.below hb) hc1 h1 (hK.below hb) hd)
  have HWt := Lib.hid (fun (h1 : n1 ≤ 1000) (h2 : n2 ≤ 900000) (hd : ∀ j, j < n2 → (K j).ds.length ≤ 900) (AX : Option Addr) (cX : Nat) y (hr : Rcs y AX (shL (holdL ms (dvI K n2)) 0).length cX (shL (holdL ms (dvI K n2)) 0)) (hb : Below w.heap.size w y) => wants18 7 S.rm 0 AX _ cX _ A1 n1 c1 ms A2 n2 c2 K y hr (by rw [shL_len]; exact hold_len hm h1 hK hd) (hm.below hb) hc1 h1 (hK.below hb) hd)
  have HD := Lib.hid (fun (h1 : n1 ≤ 1000) (h2 : n2 ≤ 900000) (hd : ∀ j, j < n2 → (K j).ds.length ≤ 900) y (hb : Below w.heap.size w y) => devices26 A1 n1 c1 ms A2 n2 c2 K 0 y (hm.below hb) h1 (hK.below hb) h2 hd)
  have HLw := Lib.hid (fun (h1 : n1 ≤ 1000) (hd : ∀ j, j < n2 → (K j).ds.length ≤ 900) => show (shL (holdL ms (dvI K n2)) 0).length ≤ 900000 by rw [shL_len]; exact hold_len hm h1 hK hd)
  rw [shL_want] at HW
  rw [stl_self] at HSt
  rw [want_self] at HWt
  have HRd := Lib.hid (rd_self (holdL ms (dvI K n2)) yu zd)
  have hml := Lib.hid hm.1
  unfold GreatP at HG
  unfold ManyP at HM
  unfold RenewP at HW
  unfold WantP at HWt HD
  generalize shL (holdL ms (dvI K n2)) 0 = lw at HW HSt HWt HD HRd HLw
  clear h hm hK hc1
  have g0 := XT.out.cell (i := 0) rfl
  have g1 := XT.out.cell (i := 1) rfl
  have d0 := XV.out.cell (i := 0) rfl
  have d1 := XV.out.cell (i := 1) rfl
  by_cases e1 : (200 : Int) < (yu.size : Int)
  · go_enter Try.func7, Try.ntmps7
    go_wp2_with (first
      | (refine wpList_load_mid rfl 24 _ rfl w.heap.size 0 rfl (sC S.id S.rm S.nx A S.l.length c) _ XS.out.range Try.underlying24 rfl size24 ?_)
      | (go_at_call 9; (with_reducible refine HG.out.mono ?_); rintro e w1 ⟨b, rfl, hgr, hb⟩; have B1 := Lib.hid (BA.out.trans (hb.mono BA.out.size)); have S1 := Lib.hid (XS.out.below hb); have T1 := Lib.hid (XT.out.below hb); have V1 := Lib.hid (XV.out.below hb); clear hgr hb g0 g1 d0 d1; have g0 := T1.out.cell (i := 0) rfl; have g1 := T1.out.cell (i := 1) rfl; have d0 := V1.out.cell (i := 0) rfl; have d1 := V1.out.cell (i := 1) rfl; cases b)
      | (go_at_call 16; (with_reducible refine (HM.out _ B1.out).mono ?_); rintro e w2 ⟨b2, rfl, hmn, hb⟩; have M1 := Lib.hid hmn; have B2 := Lib.hid (B1.out.trans (hb.mono B1.out.size)); have S2 := Lib.hid (S1.out.below hb); have T2 := Lib.hid (T1.out.below hb); have V2 := Lib.hid (V1.out.below hb); clear hmn hb g0 g1 d0 d1; have g0 := T2.out.cell (i := 0) rfl; have g1 := T2.out.cell (i := 1) rfl; have d0 := V2.out.cell (i := 0) rfl; have d1 := V2.out.cell (i := 1) rfl; cases b2)
      | go_in)
    all_goals go_ret
    all_goals first | exact ⟨rfl, B2.out⟩ | exact ⟨rfl, B1.out⟩
  by_cases e2 : (200 : Int) < (zd.size : Int)
  · go_enter Try.func7, Try.ntmps7
    go_wp2_with (first
      | (refine wpList_load_mid rfl 24 _ rfl w.heap.size 0 rfl (sC S.id S.rm S.nx A S.l.length c) _ XS.out.range Try.underlying24 rfl size24 ?_)
      | (go_at_call 9; (with_reducible refine HG.out.mono ?_); rintro e w1 ⟨b, rfl, hgr, hb⟩; have B1 := Lib.hid (BA.out.trans (hb.mono BA.out.size)); have S1 := Lib.hid (XS.out.below hb); have T1 := Lib.hid (XT.out.below hb); have V1 := Lib.hid (XV.out.below hb); clear hgr hb g0 g1 d0 d1; have g0 := T1.out.cell (i := 0) rfl; have g1 := T1.out.cell (i := 1) rfl; have d0 := V1.out.cell (i := 0) rfl; have d1 := V1.out.cell (i := 1) rfl; cases b)
      | (go_at_call 16; (with_reducible refine (HM.out _ B1.out).mono ?_); rintro e w2 ⟨b2, rfl, hmn, hb⟩; have M1 := Lib.hid hmn; have B2 := Lib.hid (B1.out.trans (hb.mono B1.out.size)); have S2 := Lib.hid (S1.out.below hb); have T2 := Lib.hid (T1.out.below hb); have V2 := Lib.hid (V1.out.below hb); clear hmn hb g0 g1 d0 d1; have g0 := T2.out.cell (i := 0) rfl; have g1 := T2.out.cell (i := 1) rfl; have d0 := V2.out.cell (i := 0) rfl; have d1 := V2.out.cell (i := 1) rfl; cases b2)
      | go_in)
    all_goals go_ret
    all_goals first | exact ⟨rfl, B2.out⟩ | exact ⟨rfl, B1.out⟩
  go_enter Try.func7, Try.ntmps7
  go_upto_region 4 with (first
    | (refine wpList_load_mid rfl 24 _ rfl w.heap.size 0 rfl (sC S.id S.rm S.nx A S.l.length c) _ XS.out.range Try.underlying24 rfl size24 ?_)
    | (refine wpList_load_mid rfl 24 _ rfl w.heap.size 0 rfl (sC S.id S.rm S.nx A S.l.length c) _ S2.out.range Try.underlying24 rfl size24 ?_)
    | (go_at_call 9; (with_reducible refine HG.out.mono ?_); rintro e w1 ⟨b, rfl, hgr, hb⟩; have B1 := Lib.hid (BA.out.trans (hb.mono BA.out.size)); have S1 := Lib.hid (XS.out.below hb); have T1 := Lib.hid (XT.out.below hb); have V1 := Lib.hid (XV.out.below hb); clear hgr hb g0 g1 d0 d1; have g0 := T1.out.cell (i := 0) rfl; have g1 := T1.out.cell (i := 1) rfl; have d0 := V1.out.cell (i := 0) rfl; have d1 := V1.out.cell (i := 1) rfl; cases b)
    | (go_at_call 16; (with_reducible refine (HM.out _ B1.out).mono ?_); rintro e w2 ⟨b2, rfl, hmn, hb⟩; have M1 := Lib.hid hmn; have B2 := Lib.hid (B1.out.trans (hb.mono B1.out.size)); have S2 := Lib.hid (S1.out.below hb); have T2 := Lib.hid (T1.out.below hb); have V2 := Lib.hid (V1.out.below hb); clear hmn hb g0 g1 d0 d1; have g0 := T2.out.cell (i := 0) rfl; have g1 := T2.out.cell (i := 1) rfl; have d0 := V2.out.cell (i := 0) rfl; have d1 := V2.out.cell (i := 1) rfl; cases b2)
    | (go_at_call 22; have MB := Lib.hid (M1.out (by first | rfl | trivial)); (with_reducible refine (HW.out (by have := MB.out.1; have := hml.out; omega) (by have := MB.out.2.1; omega) (fun j hj => by have := MB.out.2.2 j hj; omega) _ B2.out).mono ?_); rintro e w3 ⟨AX, cX, AY, cY, rfl, hr, hr2, hb⟩; have RX := Lib.hid hr; have B3 := Lib.hid (B2.out.trans (hb.mono B2.out.size)); have T3 := Lib.hid (T2.out.below hb); have V3 := Lib.hid (V2.out.below hb); clear hr hr2 hb g0 g1 d0 d1)
    | (refine store_as61 rfl 24 _ _ rfl [.int .i64 0, .string ⟨#[]⟩, .int .i64 0, .slice none 0 0] [.int .i64 7, .string S.rm, .int .i64 0, .slice AX lw.length cX] rfl rfl rfl size24 (by simp [Value.oneCell']) ?_; intro w4 hx hb; have X4 := Lib.hid hx; have RX4 := Lib.hid (RX.out.below hb); have B4 := Lib.hid (B3.out.trans (hb.mono B3.out.size)); have T4 := Lib.hid (T3.out.below hb); have V4 := Lib.hid (V3.out.below hb); clear hx hb)
    | fail)
  · have hb3 := V3.out.lt
    have h1n : n1 ≤ 1000 := by have := MB.out.1; have := hml.out; omega
    have h2n : n2 ≤ 900000 := by have := MB.out.2.1; omega
    have HDl := Lib.hid (show ∀ j, j < n2 → (K j).ds.length ≤ 900 from fun j hj => by have := MB.out.2.2 j hj; omega)
    have hlw := HLw.out h1n HDl.out
    generalize w3.heap.size = b3 at X4 hb3 ⊢
    clear RX B3 T3 V3 B2 S2 T2 V2 B1 S1 T1 V1 HG HM HW XS XT XV BA
    have g0 := T4.out.cell (i := 0) rfl
    have g1 := T4.out.cell (i := 1) rfl
    go_upto_region 6 with (first
      | (refine wpList_load_mid rfl 24 _ rfl b3 0 rfl (sC 7 S.rm 0 AX lw.length cX) _ X4.out.range Try.underlying24 rfl size24 ?_)
      | (refine load_mid_g (by rfl) 24 _ rfl b3 0 rfl (sC 7 S.rm 0 AX lw.length cX) _ G5.out Try.underlying24 rfl size24 ?_)
      | (go_at_call 20; (with_reducible refine (HSt.out h1n h2n HDl.out AX cX w4 RX4.out B4.out).mono ?_); rintro e w5 ⟨rfl, hb⟩; have RX5 := Lib.hid (RX4.out.below hb); have X5 := Lib.hid (X4.out.below hb); have G5 := Lib.hid X5.out.range; have B5 := Lib.hid (B4.out.trans (hb.mono B4.out.size)); have T5 := Lib.hid (T4.out.below hb); have V5 := Lib.hid (V4.out.below hb); clear hb g0 g1; have g0 := T5.out.cell (i := 0) rfl; have g1 := T5.out.cell (i := 1) rfl; have s0 := X5.out.cell (i := 0) rfl; have s1 := X5.out.cell (i := 1) rfl; have s2 := X5.out.cell (i := 2) rfl; have s3 := X5.out.cell (i := 3) rfl)
      | (go_at_call 18; (with_reducible refine (HWt.out h1n h2n HDl.out AX cX w5 RX5.out B5.out).mono ?_); rintro e w6 ⟨AW, cW, rfl, _, _, hb⟩; have RX6 := Lib.hid (RX5.out.below hb); have X6 := Lib.hid (X5.out.below hb); have B6 := Lib.hid (B5.out.trans (hb.mono B5.out.size)); have T6 := Lib.hid (T5.out.below hb); have V6 := Lib.hid (V5.out.below hb); clear hb g0 g1 s0 s1 s2 s3)
      | fail)
    have HU := Lib.hid (uses_use ⟨7, S.rm, 0, lw⟩ AX cX 10 _ (use_self S.rm lw) w6 RX6.out hlw (by unfold i64B; dsimp only; omega))
    dsimp only at HU
    clear RX4 X4 B4 T4 V4 RX5 X5 G5 B5 T5 V5 HSt HWt
    go_upto_region 7 with (first
      | (refine wpList_load_mid rfl 24 _ rfl b3 0 rfl (sC 7 S.rm 0 AX lw.length cX) _ X6.out.range Try.underlying24 rfl size24 ?_)
      | (go_at_call 10; (with_reducible refine HU.out.mono ?_); rintro e w7 ⟨AU, cU, rfl, hr, hb⟩; have RU := Lib.hid hr; have X7 := Lib.hid (X6.out.below hb); have B7 := Lib.hid (B6.out.trans (hb.mono B6.out.size)); have T7 := Lib.hid (T6.out.below hb); have V7 := Lib.hid (V6.out.below hb); clear hr hb)
      | (refine wpList_store_mid rfl 24 _ _ rfl b3 0 [.int .i64 7, .string S.rm, .int .i64 1, .slice AU lw.length cU].toArray rfl rfl (Blk.there (n := 4) X7.out (Nat.le_refl 4)) size24 (by simp [Value.oneCell']) ?_; obtain ⟨w8, hw, hx, hr, hb⟩ := st_ses X7.out [.int .i64 7, .string S.rm, .int .i64 1, .slice AU lw.length cU] rfl RU.out; rw [hw]; have X8 := Lib.hid hx; have R8 := Lib.hid hr; have B8 := Lib.hid (hb _ _ B7.out (by omega)); have T8 := Lib.hid (T7.out.at_ (hb _ _ (Below.refl b3 w7) (Nat.le_refl _)) (by omega)); have V8 := Lib.hid (V7.out.at_ (hb _ _ (Below.refl b3 w7) (Nat.le_refl _)) (by omega)); clear hw hx hr hb)
      | fail)
    clear X6 RX6 B6 T6 V6 X7 RU B7 T7 V7 HU
    have g0 := T8.out.cell (i := 0) rfl
    have g1 := T8.out.cell (i := 1) rfl
    go_upto_region 10 with (first
      | (go_at_call 26; (with_reducible refine (HD.out h1n h2n HDl.out _ B8.out).mono ?_); rintro e w9 ⟨AD, cD, rfl, hr, _, hb⟩; have RD := Lib.hid hr; have X9 := Lib.hid (X8.out.below hb); have R9 := Lib.hid (R8.out.below hb); have V9 := Lib.hid (V8.out.below hb); have B9 := Lib.hid (B8.out.trans (hb.mono B8.out.size)); clear hr hb g0 g1)
      | fail)
    clear X8 R8 B8 T8 V8 HD
    have HLn := Lib.hid RD.out.len
    go_wp2
    go_loopg [11, 13] lw.length (fun gg s11 s13 wr => ∃ (k : Nat), k ≤ lw.length ∧ lw.length - k ≤ gg ∧ s11 = .bool ((lw.take k).any (smH yu zd)) ∧ s13 = .int .i64 (k : Int) ∧ Hid (Below w9.heap.size w9 wr))
    case atStart => exact ⟨0, Nat.zero_le _, by omega, rfl, rfl, Lib.hid (Below.refl _ _)⟩
    case round =>
      obtain ⟨k, hk, hg, rfl, rfl, BX⟩ := hrel
      have V10 := Lib.hid (V9.out.below BX.out)
      have d0 := V10.out.cell (i := 0) rfl
      have d1 := V10.out.cell (i := 1) rfl
      by_cases hlt : k < lw.length
      · have hltz : (k : Int) < (lw.length : Int) := by omega
        have hk0 : (0 : Int) ≤ (k : Int) := by omega
        obtain ⟨b, off, rfl, hbl, hr, _⟩ := (RD.out.below BX.out).get hlt
        have q0 : wr.cell? ⟨b, off + k * 3, none⟩ = some (.string (lw.getD k t0).us) := hr 0 _ rfl
        have q1 : wr.cell? ⟨b, off + k * 3 + 1, none⟩ = some (.string (lw.getD k t0).dv) := hr 1 _ rfl
        have HT2 := Lib.hid (any_succ (q := smH yu zd) hlt)
        clear hr
        generalize lw.getD k t0 = p at q0 q1 HT2
        generalize (lw.take k).any (smH yu zd) = q at HT2 ⊢
        generalize hq1 : (lw.take (k + 1)).any (smH yu zd) = qn at HT2
        have HQn := Lib.hid hq1
        clear hq1
        cases q with
        | true =>
          have HE := Lib.hid (show qn = true by rw [HT2.out]; rfl)
          go_wp2
          go_quiet (fail)
          go_wp2
          go_roundg (lw.length - (k + 1))
          case measure => omega
          case rel => exact ⟨k + 1, by omega, by omega, by rw [HQn.out, HE.out], by go_num, Lib.hid (bel_dn BX.out _)⟩
        | false =>
          by_cases f1 : p.us = yu
          · have z1 : (p.us.toList == yu.toList) = true := by rw [f1]; exact beq_self_eq_true _
            by_cases f2 : p.dv = zd
            · have z2 : (p.dv.toList == zd.toList) = true := by rw [f2]; exact beq_self_eq_true _
              have HE := Lib.hid (show qn = true by rw [HT2.out, smH_yes f1 f2]; rfl)
              clear f1 f2 HT2
              generalize p.us = pu at q0 z1
              generalize p.dv = pd at q1 z2
              go_wp2
              go_quiet (fail)
              go_wp2
              go_roundg (lw.length - (k + 1))
              case measure => omega
              case rel => exact ⟨k + 1, by omega, by omega, by rw [HQn.out, HE.out], by go_num, Lib.hid (bel_dn BX.out _)⟩
            · have z2 : (p.dv.toList == zd.toList) = false := beq_eq_false_iff_ne.2 (fun e => f2 (eq_of_toList e))
              have HE := Lib.hid (show qn = false by rw [HT2.out, smH_ne2 f2]; rfl)
              clear f1 f2 HT2
              generalize p.us = pu at q0 z1
              generalize p.dv = pd at q1 z2
              go_wp2
              go_quiet (fail)
              go_wp2
              go_roundg (lw.length - (k + 1))
              case measure => omega
              case rel => exact ⟨k + 1, by omega, by omega, by rw [HQn.out, HE.out], by go_num, Lib.hid (bel_dn BX.out _)⟩
          · have z1 : (p.us.toList == yu.toList) = false := beq_eq_false_iff_ne.2 (fun e => f1 (eq_of_toList e))
            have HE := Lib.hid (show qn = false by rw [HT2.out, smH_ne1 f1]; rfl)
            clear f1 HT2
            generalize p.us = pu at q0 z1
            generalize p.dv = pd at q1
            go_wp2
            go_quiet (fail)
            go_wp2
            go_roundg (lw.length - (k + 1))
            case measure => omega
            case rel => exact ⟨k + 1, by omega, by omega, by rw [HQn.out, HE.out], by go_num, Lib.hid (bel_dn BX.out _)⟩
      · have hltz : ¬ (k : Int) < (lw.length : Int) := by omega
        obtain rfl : k = lw.length := by omega
        rw [List.take_length]
        have R10 := Lib.hid (R9.out.below BX.out)
        have X10 := Lib.hid (X9.out.below BX.out)
        have HR13 := Lib.hid (reads13 7 S.rm 1 AU cU lw yu zd 0 wr R10.out)
        rw [HRd.out] at HR13
        generalize lw.any (smH yu zd) = qa at HR13 ⊢
        have BW := Lib.hid (B9.out.trans (BX.out.mono B9.out.size))
        have s0 := X10.out.cell (i := 0) rfl
        have s1 := X10.out.cell (i := 1) rfl
        have s2 := X10.out.cell (i := 2) rfl
        have s3 := X10.out.cell (i := 3) rfl
        go_wp2_with (first
          | (go_at_call 13; (with_reducible refine HR13.out.mono ?_); rintro e w11 ⟨rfl, hb⟩; have B11 := Lib.hid (BW.out.trans (hb.mono BW.out.size)); clear hb)
          | (go_at_call 15; (with_reducible refine (live15 w11).mono ?_); rintro e w12 ⟨rfl, hb⟩; have B12 := Lib.hid (B11.out.trans (hb.mono B11.out.size)); clear hb)
          | go_in)
        go_ret
        exact ⟨rfl, B12.out⟩
  · go_ret
    first | exact ⟨rfl, B2.out⟩ | exact ⟨rfl, B1.out⟩
  · go_ret
    first | exact ⟨rfl, B2.out⟩ | exact ⟨rfl, B1.out⟩
end Go.Proofs.Ytbkchcpfnoclhaa
