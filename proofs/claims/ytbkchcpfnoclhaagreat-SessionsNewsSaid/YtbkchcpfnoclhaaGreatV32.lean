/- SessionsNews: its walk. -/
import Derived.Test.YtbkchcpfnoclhaaGreatV31
import Derived.Test.YtbkchcpfnoclhaaGreatV16
namespace Go.Proofs.YtbkchcpfnoclhaaGreat
open Go Go.RowKit
set_option linter.unusedVariables false
set_option linter.unusedSimpArgs false
set_option maxRecDepth 100000

set_option maxHeartbeats 16000000 in
theorem news_walk (id : Int) (S : Ses) (A : Option Addr) (c : Nat) (yu zd : ByteArray) (w : World) (h : Rcs w A S.l.length c S.l) (hrm : S.rm.size ≤ 9223372036854775807) (hc : c ≤ 9223372036854775807) (hyu : yu.size ≤ 9223372036854775807) (hzd : zd.size ≤ 9223372036854775807) : Calls Tryz.prog 3 #[.int .i64 id, .agg #[.int .i64 S.id, .string S.rm, .int .i64 S.nx, .slice A S.l.length c], .agg #[.string yu, .string zd]] w fun r w' => r = .returned (.bool true) ∧ Below w.heap.size w w' := by
  have S0 := Lib.hid ((blk_new w (sC S.id S.rm S.nx A S.l.length c) 24).alloc (.cells #[.string yu, .string zd] 26))
  have V0 := Lib.hid (blk_new2 w (.cells #[.int .i64 S.id, .string S.rm, .int .i64 S.nx, .slice A S.l.length c] 24) [.string yu, .string zd] 26)
  have B0 := Lib.hid (((Below.refl w.heap.size w).alloc (Nat.le_refl _) (.cells #[.int .i64 S.id, .string S.rm, .int .i64 S.nx, .slice A S.l.length c] 24)).alloc (by simp) (.cells #[.string yu, .string zd] 26))
  have HG := Lib.hid (great9 S.id S.rm S.nx A c S.l 40 _ (h.below B0.out) hrm)
  unfold GreatP at HG
  have HN := Lib.hid (fun y (hb : Below w.heap.size w y) => new24 id S.rm y hrm)
  have HM := Lib.hid (fun y (hb : Below w.heap.size w y) => rnew6 id S.rm y hrm)
  have HH := Lib.hid h
  have HC := Lib.hid hc
  have HY := Lib.hid hyu
  have HZ := Lib.hid hzd
  clear h hc hyu hzd hrm
  have s1 := S0.out.cell (i := 1) rfl
  have d0 := V0.out.cell (i := 0) rfl
  have d1 := V0.out.cell (i := 1) rfl
  by_cases e1 : (200 : Int) < (yu.size : Int)
  · go_enter Tryz.func3, Tryz.ntmps3
    go_wp2_with (first
      | (refine wpList_load_mid rfl 24 _ rfl w.heap.size 0 rfl (sC S.id S.rm S.nx A S.l.length c) _ S0.out.range Tryz.underlying24 rfl size24 ?_)
      | (go_at_call 4; (with_reducible refine HG.out.mono ?_); rintro e w1 ⟨b, rfl, hgr, hb⟩; have G1 := Lib.hid hgr; have B1 := Lib.hid (B0.out.trans (hb.mono B0.out.size)); clear B0; have S1 := Lib.hid (S0.out.below hb); clear S0; have V1 := Lib.hid (V0.out.below hb); clear V0; (try clear s1 d0 d1); have s1 := S1.out.cell (i := 1) rfl; have d0 := V1.out.cell (i := 0) rfl; have d1 := V1.out.cell (i := 1) rfl; clear hgr hb; cases b)
      | fail)
    all_goals go_ret
    all_goals exact ⟨rfl, B1.out⟩
  by_cases e2 : (200 : Int) < (zd.size : Int)
  · go_enter Tryz.func3, Tryz.ntmps3
    go_wp2_with (first
      | (refine wpList_load_mid rfl 24 _ rfl w.heap.size 0 rfl (sC S.id S.rm S.nx A S.l.length c) _ S0.out.range Tryz.underlying24 rfl size24 ?_)
      | (go_at_call 4; (with_reducible refine HG.out.mono ?_); rintro e w1 ⟨b, rfl, hgr, hb⟩; have G1 := Lib.hid hgr; have B1 := Lib.hid (B0.out.trans (hb.mono B0.out.size)); clear B0; have S1 := Lib.hid (S0.out.below hb); clear S0; have V1 := Lib.hid (V0.out.below hb); clear V0; (try clear s1 d0 d1); have s1 := S1.out.cell (i := 1) rfl; have d0 := V1.out.cell (i := 0) rfl; have d1 := V1.out.cell (i := 1) rfl; clear hgr hb; cases b)
      | fail)
    all_goals go_ret
    all_goals exact ⟨rfl, B1.out⟩
  go_enter Tryz.func3, Tryz.ntmps3
  go_upto_region 3 with (first
    | (refine wpList_load_mid rfl 24 _ rfl w.heap.size 0 rfl (sC S.id S.rm S.nx A S.l.length c) _ S0.out.range Tryz.underlying24 rfl size24 ?_)
    | (go_at_call 4; (with_reducible refine HG.out.mono ?_); rintro e w1 ⟨b, rfl, hgr, hb⟩; have G1 := Lib.hid hgr; have B1 := Lib.hid (B0.out.trans (hb.mono B0.out.size)); clear B0; have S1 := Lib.hid (S0.out.below hb); clear S0; have V1 := Lib.hid (V0.out.below hb); clear V0; (try clear s1 d0 d1); have s1 := S1.out.cell (i := 1) rfl; have d0 := V1.out.cell (i := 0) rfl; have d1 := V1.out.cell (i := 1) rfl; clear hgr hb; cases b)
    | fail)
  · have GB := (G1.out (by first | rfl | trivial)).1
    have hl : S.l.length ≤ 900000 := by omega
    have HP := Lib.hid (fun y (hb : Below w.heap.size w y) => give25 S A c yu zd y (HH.out.below hb) hl HY.out HZ.out)
    have HQ := Lib.hid (fun y (hb : Below w.heap.size w y) => rgive8 S A c yu zd y (HH.out.below hb) hl HY.out HZ.out HC.out)
    clear HG GB hl HH HC HY HZ G1 e1 e2
    unfold GiveP at HN HM HP HQ
    unfold IsS at HN HM HP HQ
    generalize newS id S.rm = X at HN HM
    generalize giveS S yu zd = Z at HP HQ
    obtain ⟨⟨xi, xr, xn, xl⟩, xe⟩ := X
    obtain ⟨⟨zi, zr, zn, zl⟩, ze⟩ := Z
    dsimp only at HN HM HP HQ
    have f1 : (xe == xe) = true := beq_self_eq_true xe
    have f2 : (ze == ze) = true := beq_self_eq_true ze
    have HS1 := Lib.hid (show ∀ (y : World) (P : Option Addr) (p : Nat) (Q : Option Addr) (q : Nat), Rcs y P xl.length p xl → Rcs y Q xl.length q xl → Calls Tryz.prog 9 #[.agg #[.int .i64 xi, .string xr, .int .i64 xn, .slice P xl.length p], .agg #[.int .i64 xi, .string xr, .int .i64 xn, .slice Q xl.length q]] y (fun r w' => r = .returned (.bool true) ∧ Below y.heap.size y w') from fun y P p Q q h1 h2 => same12 ⟨xi, xr, xn, xl⟩ _ _ y ⟨P, p, rfl, h1⟩ ⟨Q, q, rfl, h2⟩)
    have HS2 := Lib.hid (show ∀ (y : World) (P : Option Addr) (p : Nat) (Q : Option Addr) (q : Nat), Rcs y P zl.length p zl → Rcs y Q zl.length q zl → Calls Tryz.prog 9 #[.agg #[.int .i64 zi, .string zr, .int .i64 zn, .slice P zl.length p], .agg #[.int .i64 zi, .string zr, .int .i64 zn, .slice Q zl.length q]] y (fun r w' => r = .returned (.bool true) ∧ Below y.heap.size y w') from fun y P p Q q h1 h2 => same12 ⟨zi, zr, zn, zl⟩ _ _ y ⟨P, p, rfl, h1⟩ ⟨Q, q, rfl, h2⟩)
    go_upto_region 7 with (first
      | (go_at_call 5; (with_reducible refine (HN.out _ B1.out).mono ?_); rintro e w2 ⟨v1, rfl, ⟨A1, c1, rfl, hr⟩, hb⟩; have R1_2 := Lib.hid hr; have B2 := Lib.hid (B1.out.trans (hb.mono B1.out.size)); clear B1; have S2 := Lib.hid (S1.out.below hb); clear S1; have V2 := Lib.hid (V1.out.below hb); clear V1; (try clear s1 d0 d1); have s1 := S2.out.cell (i := 1) rfl; have d0 := V2.out.cell (i := 0) rfl; have d1 := V2.out.cell (i := 1) rfl; clear hr hb)
      | (refine store_as61 rfl 24 _ _ rfl [.int .i64 0, .string ⟨#[]⟩, .int .i64 0, .slice none 0 0] [.int .i64 xi, .string xr, .int .i64 xn, .slice A1 xl.length c1] rfl rfl rfl size24 (by simp [Value.oneCell']) ?_; intro w3 hx hb; have X1_3 := Lib.hid hx; have B3 := Lib.hid (B2.out.trans (hb.mono B2.out.size)); clear B2; have S3 := Lib.hid (S2.out.below hb); clear S2; have V3 := Lib.hid (V2.out.below hb); clear V2; have R1_3 := Lib.hid (R1_2.out.below hb); clear R1_2; (try clear s1 d0 d1); have s1 := S3.out.cell (i := 1) rfl; have d0 := V3.out.cell (i := 0) rfl; have d1 := V3.out.cell (i := 1) rfl; clear hx hb)
      | (go_at_call 6; (with_reducible refine (HM.out _ B3.out).mono ?_); rintro e w4 ⟨v2, rfl, ⟨A2, c2, rfl, hr⟩, hb⟩; have R2_4 := Lib.hid hr; have B4 := Lib.hid (B3.out.trans (hb.mono B3.out.size)); clear B3; have S4 := Lib.hid (S3.out.below hb); clear S3; have V4 := Lib.hid (V3.out.below hb); clear V3; have R1_4 := Lib.hid (R1_3.out.below hb); clear R1_3; have X1_4 := Lib.hid (X1_3.out.below hb); clear X1_3; (try clear s1 d0 d1); have s1 := S4.out.cell (i := 1) rfl; have d0 := V4.out.cell (i := 0) rfl; have d1 := V4.out.cell (i := 1) rfl; clear hr hb)
      | (refine store_as61 rfl 24 _ _ rfl [.int .i64 0, .string ⟨#[]⟩, .int .i64 0, .slice none 0 0] [.int .i64 xi, .string xr, .int .i64 xn, .slice A2 xl.length c2] rfl rfl rfl size24 (by simp [Value.oneCell']) ?_; intro w5 hx hb; have X2_5 := Lib.hid hx; have B5 := Lib.hid (B4.out.trans (hb.mono B4.out.size)); clear B4; have S5 := Lib.hid (S4.out.below hb); clear S4; have V5 := Lib.hid (V4.out.below hb); clear V4; have R1_5 := Lib.hid (R1_4.out.below hb); clear R1_4; have X1_5 := Lib.hid (X1_4.out.below hb); clear X1_4; have R2_5 := Lib.hid (R2_4.out.below hb); clear R2_4; (try clear s1 d0 d1); have s1 := S5.out.cell (i := 1) rfl; have d0 := V5.out.cell (i := 0) rfl; have d1 := V5.out.cell (i := 1) rfl; clear hx hb)
      | (refine wpList_load_mid rfl 24 _ rfl w.heap.size 0 rfl (sC S.id S.rm S.nx A S.l.length c) _ S5.out.range Tryz.underlying24 rfl size24 ?_)
      | (go_at_call 7; (with_reducible refine (HP.out _ B5.out).mono ?_); rintro e w6 ⟨v3, rfl, ⟨A3, c3, rfl, hr⟩, hb⟩; have R3_6 := Lib.hid hr; have B6 := Lib.hid (B5.out.trans (hb.mono B5.out.size)); clear B5; have S6 := Lib.hid (S5.out.below hb); clear S5; have V6 := Lib.hid (V5.out.below hb); clear V5; have R1_6 := Lib.hid (R1_5.out.below hb); clear R1_5; have X1_6 := Lib.hid (X1_5.out.below hb); clear X1_5; have R2_6 := Lib.hid (R2_5.out.below hb); clear R2_5; have X2_6 := Lib.hid (X2_5.out.below hb); clear X2_5; (try clear s1 d0 d1); have s1 := S6.out.cell (i := 1) rfl; have d0 := V6.out.cell (i := 0) rfl; have d1 := V6.out.cell (i := 1) rfl; clear hr hb)
      | (refine store_as61 rfl 24 _ _ rfl [.int .i64 0, .string ⟨#[]⟩, .int .i64 0, .slice none 0 0] [.int .i64 zi, .string zr, .int .i64 zn, .slice A3 zl.length c3] rfl rfl rfl size24 (by simp [Value.oneCell']) ?_; intro w7 hx hb; have X3_7 := Lib.hid hx; have B7 := Lib.hid (B6.out.trans (hb.mono B6.out.size)); clear B6; have S7 := Lib.hid (S6.out.below hb); clear S6; have V7 := Lib.hid (V6.out.below hb); clear V6; have R1_7 := Lib.hid (R1_6.out.below hb); clear R1_6; have X1_7 := Lib.hid (X1_6.out.below hb); clear X1_6; have R2_7 := Lib.hid (R2_6.out.below hb); clear R2_6; have X2_7 := Lib.hid (X2_6.out.below hb); clear X2_6; have R3_7 := Lib.hid (R3_6.out.below hb); clear R3_6; (try clear s1 d0 d1); have s1 := S7.out.cell (i := 1) rfl; have d0 := V7.out.cell (i := 0) rfl; have d1 := V7.out.cell (i := 1) rfl; clear hx hb)
      | (refine wpList_load_mid rfl 24 _ rfl w.heap.size 0 rfl (sC S.id S.rm S.nx A S.l.length c) _ S7.out.range Tryz.underlying24 rfl size24 ?_)
      | (go_at_call 8; (with_reducible refine (HQ.out _ B7.out).mono ?_); rintro e w8 ⟨v4, rfl, ⟨A4, c4, rfl, hr⟩, hb⟩; have R4_8 := Lib.hid hr; have B8 := Lib.hid (B7.out.trans (hb.mono B7.out.size)); clear B7; have S8 := Lib.hid (S7.out.below hb); clear S7; have V8 := Lib.hid (V7.out.below hb); clear V7; have R1_8 := Lib.hid (R1_7.out.below hb); clear R1_7; have X1_8 := Lib.hid (X1_7.out.below hb); clear X1_7; have R2_8 := Lib.hid (R2_7.out.below hb); clear R2_7; have X2_8 := Lib.hid (X2_7.out.below hb); clear X2_7; have R3_8 := Lib.hid (R3_7.out.below hb); clear R3_7; have X3_8 := Lib.hid (X3_7.out.below hb); clear X3_7; (try clear s1 d0 d1); have s1 := S8.out.cell (i := 1) rfl; have d0 := V8.out.cell (i := 0) rfl; have d1 := V8.out.cell (i := 1) rfl; clear hr hb)
      | (refine store_as61 rfl 24 _ _ rfl [.int .i64 0, .string ⟨#[]⟩, .int .i64 0, .slice none 0 0] [.int .i64 zi, .string zr, .int .i64 zn, .slice A4 zl.length c4] rfl rfl rfl size24 (by simp [Value.oneCell']) ?_; intro w9 hx hb; have X4_9 := Lib.hid hx; have B9 := Lib.hid (B8.out.trans (hb.mono B8.out.size)); clear B8; have S9 := Lib.hid (S8.out.below hb); clear S8; have V9 := Lib.hid (V8.out.below hb); clear V8; have R1_9 := Lib.hid (R1_8.out.below hb); clear R1_8; have X1_9 := Lib.hid (X1_8.out.below hb); clear X1_8; have R2_9 := Lib.hid (R2_8.out.below hb); clear R2_8; have X2_9 := Lib.hid (X2_8.out.below hb); clear X2_8; have R3_9 := Lib.hid (R3_8.out.below hb); clear R3_8; have X3_9 := Lib.hid (X3_8.out.below hb); clear X3_8; have R4_9 := Lib.hid (R4_8.out.below hb); clear R4_8; (try clear s1 d0 d1); have s1 := S9.out.cell (i := 1) rfl; have d0 := V9.out.cell (i := 0) rfl; have d1 := V9.out.cell (i := 1) rfl; clear hx hb)
      | fail)
    clear S9 V9 s1 d0 d1 HN HM HP HQ
    try simp only [List.append_eq, List.cons_append, List.nil_append]
    go_wp2_with (first
      | (refine load_mid_g (by kernel_rfl) 24 _ rfl _ 0 rfl [.int .i64 xi, .string xr, .int .i64 xn, .slice A1 xl.length c1] _ X1_9.out.range Tryz.underlying24 rfl size24 ?_)
      | (refine load_mid_g (by kernel_rfl) 24 _ rfl _ 0 rfl [.int .i64 xi, .string xr, .int .i64 xn, .slice A2 xl.length c2] _ X2_9.out.range Tryz.underlying24 rfl size24 ?_)
      | (go_at_call 9; (with_reducible refine (HS1.out _ A1 c1 A2 c2 R1_9.out R2_9.out).mono ?_); rintro e w10 ⟨rfl, hb⟩; have B10 := Lib.hid (B9.out.trans (hb.mono B9.out.size)); have R3_10 := Lib.hid (R3_9.out.below hb); have R4_10 := Lib.hid (R4_9.out.below hb); have X3_10 := Lib.hid (X3_9.out.below hb); have X4_10 := Lib.hid (X4_9.out.below hb); clear hb R1_9 R2_9)
      | (refine load_mid_g (by kernel_rfl) 24 _ rfl _ 0 rfl [.int .i64 zi, .string zr, .int .i64 zn, .slice A3 zl.length c3] _ X3_10.out.range Tryz.underlying24 rfl size24 ?_)
      | (refine load_mid_g (by kernel_rfl) 24 _ rfl _ 0 rfl [.int .i64 zi, .string zr, .int .i64 zn, .slice A4 zl.length c4] _ X4_10.out.range Tryz.underlying24 rfl size24 ?_)
      | (go_at_call 9; (with_reducible refine (HS2.out _ A3 c3 A4 c4 R3_10.out R4_10.out).mono ?_); rintro e w11 ⟨rfl, hb⟩; have B11 := Lib.hid (B10.out.trans (hb.mono B10.out.size)); clear hb)
      | (go_at_call 10; (with_reducible refine (live15 _).mono ?_); rintro e w12 ⟨rfl, hb⟩; have B12 := Lib.hid (B11.out.trans (hb.mono B11.out.size)); clear hb)
      | fail)
    go_ret
    exact ⟨rfl, B12.out⟩
  · go_ret
    exact ⟨rfl, B1.out⟩
end Go.Proofs.YtbkchcpfnoclhaaGreat
