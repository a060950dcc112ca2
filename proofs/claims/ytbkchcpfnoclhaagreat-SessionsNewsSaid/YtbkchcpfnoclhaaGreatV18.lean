/- Sessions: the example returns true. No condition. -/
import Derived.Test.YtbkchcpfnoclhaaGreatV17
namespace Go.Proofs.YtbkchcpfnoclhaaGreat
set_option maxRecDepth 100000
open Go Go.RowKit
set_option linter.unusedVariables false
set_option linter.unusedSimpArgs false
set_option maxRecDepth 100000

set_option maxHeartbeats 16000000 in
theorem live15 (w : World) : Calls Tryz.prog 10 #[] w fun r w' => r = .returned (.bool true) ∧ Below w.heap.size w w' := by
  have HN := Lib.hid l_new
  go_enter Tryz.func10, Tryz.ntmps10
  go_upto_region 2 with (first
    | (go_at_call 5; (with_reducible refine (HN.out w).mono ?_); rintro e w1 ⟨A1, c1, rfl, hr, hb⟩; have R1 := Lib.hid hr; have B1 := Lib.hid hb; clear hr hb)
    | (refine store_as61 rfl 24 _ _ rfl [.int .i64 0, .string ⟨#[]⟩, .int .i64 0, .slice none 0 0] [.int .i64 5, .string ⟨#[33, 114, 58, 97]⟩, .int .i64 0, .slice A1 0 c1] rfl rfl rfl size24 (by simp [Value.oneCell']) ?_; intro w2 hx hb; have X2 := Lib.hid hx; have R2 := Lib.hid (R1.out.below hb); have B2 := Lib.hid (B1.out.trans (hb.mono B1.out.size)); clear hx hb)
    | fail)
  have HB := B1.out.size
  generalize w1.heap.size = b1 at X2 HB ⊢
  clear B1 R1
  go_upto_region 3 with (first
    | (refine wpList_load_mid rfl 24 _ rfl b1 0 rfl (sC 5 xR 0 A1 0 c1) _ X2.out.range Tryz.underlying24 rfl size24 ?_)
    | (go_at_call 22; (with_reducible refine (l_use1 A1 c1 w2 R2.out).mono ?_); rintro e w3 ⟨A3, c3, rfl, hr, hb⟩; have R3 := Lib.hid hr; have X3 := Lib.hid (X2.out.below hb); have B3 := Lib.hid (B2.out.trans (hb.mono B2.out.size)); clear hr hb)
    | (refine wpList_store_mid rfl 24 _ _ rfl b1 0 [.int .i64 5, .string ⟨#[33, 114, 58, 97]⟩, .int .i64 1, .slice A3 0 c3].toArray rfl rfl (Blk.there (n := 4) X3.out (Nat.le_refl 4)) size24 (by simp [Value.oneCell']) ?_; obtain ⟨w4, hw, hx, hr, hb⟩ := st_ses X3.out [.int .i64 5, .string ⟨#[33, 114, 58, 97]⟩, .int .i64 1, .slice A3 0 c3] rfl R3.out; rw [hw]; have X4 := Lib.hid hx; have R4 := Lib.hid hr; have B4 := Lib.hid (hb _ _ B3.out HB); clear hw hx hr hb)
    | fail)
  clear X2 R2 B2 X3 R3 B3
  go_upto_region 4 with (first
    | (refine wpList_load_mid rfl 24 _ rfl b1 0 rfl (sC 5 xR 1 A3 0 c3) _ X4.out.range Tryz.underlying24 rfl size24 ?_)
    | (go_at_call 7; (with_reducible refine (l_give1 A3 c3 w4 R4.out).mono ?_); rintro e w5 ⟨A5, c5, rfl, hr, hb⟩; have R5 := Lib.hid hr; have X5 := Lib.hid (X4.out.below hb); have B5 := Lib.hid (B4.out.trans (hb.mono B4.out.size)); clear hr hb)
    | (refine wpList_store_mid rfl 24 _ _ rfl b1 0 [.int .i64 5, .string ⟨#[33, 114, 58, 97]⟩, .int .i64 1, .slice A5 1 c5].toArray rfl rfl (Blk.there (n := 4) X5.out (Nat.le_refl 4)) size24 (by simp [Value.oneCell']) ?_; obtain ⟨w6, hw, hx, hr, hb⟩ := st_ses X5.out [.int .i64 5, .string ⟨#[33, 114, 58, 97]⟩, .int .i64 1, .slice A5 1 c5] rfl R5.out; rw [hw]; have X6 := Lib.hid hx; have R6 := Lib.hid hr; have B6 := Lib.hid (hb _ _ B5.out HB); clear hw hx hr hb)
    | fail)
  clear X4 R4 B4 X5 R5 B5
  go_upto_region 5 with (first
    | (refine wpList_load_mid rfl 24 _ rfl b1 0 rfl (sC 5 xR 1 A5 1 c5) _ X6.out.range Tryz.underlying24 rfl size24 ?_)
    | (go_at_call 7; (with_reducible refine (l_give2 A5 c5 w6 R6.out).mono ?_); rintro e w7 ⟨A7, c7, rfl, hb⟩; have R7 := Lib.hid (R6.out.below hb); have X7 := Lib.hid (X6.out.below hb); have B7 := Lib.hid (B6.out.trans (hb.mono B6.out.size)); clear hb)
    | (refine store_as61 rfl 24 _ _ rfl [.int .i64 0, .string ⟨#[]⟩, .int .i64 0, .slice none 0 0] [.int .i64 0, .string ⟨#[]⟩, .int .i64 0, .slice A7 0 c7] rfl rfl rfl size24 (by simp [Value.oneCell']) ?_; intro w8 hx hb; have R8 := Lib.hid (R7.out.below hb); have X8 := Lib.hid (X7.out.below hb); have B8 := Lib.hid (B7.out.trans (hb.mono B7.out.size)); clear hx hb)
    | fail)
  clear X6 R6 B6 X7 R7 B7
  go_upto_region 6 with (first
    | (refine wpList_load_mid rfl 24 _ rfl b1 0 rfl (sC 5 xR 1 A5 1 c5) _ X8.out.range Tryz.underlying24 rfl size24 ?_)
    | (go_at_call 22; (with_reducible refine (l_use2 A5 c5 w8 R8.out).mono ?_); rintro e w9 ⟨A9, c9, rfl, hr, hb⟩; have R9 := Lib.hid hr; have X9 := Lib.hid (X8.out.below hb); have B9 := Lib.hid (B8.out.trans (hb.mono B8.out.size)); clear hr hb)
    | (refine wpList_store_mid rfl 24 _ _ rfl b1 0 [.int .i64 5, .string ⟨#[33, 114, 58, 97]⟩, .int .i64 2, .slice A9 1 c9].toArray rfl rfl (Blk.there (n := 4) X9.out (Nat.le_refl 4)) size24 (by simp [Value.oneCell']) ?_; obtain ⟨w10, hw, hx, hr, hb⟩ := st_ses X9.out [.int .i64 5, .string ⟨#[33, 114, 58, 97]⟩, .int .i64 2, .slice A9 1 c9] rfl R9.out; rw [hw]; have X10 := Lib.hid hx; have R10 := Lib.hid hr; have B10 := Lib.hid (hb _ _ B9.out HB); clear hw hx hr hb)
    | fail)
  clear X8 R8 B8 X9 R9 B9
  go_upto_region 7 with (first
    | (refine wpList_load_mid rfl 24 _ rfl b1 0 rfl (sC 5 xR 2 A9 1 c9) _ X10.out.range Tryz.underlying24 rfl size24 ?_)
    | (go_at_call 22; (with_reducible refine (l_use3 A9 c9 w10 R10.out).mono ?_); rintro e w11 ⟨A11, c11, rfl, hb⟩; have R11 := Lib.hid (R10.out.below hb); have X11 := Lib.hid (X10.out.below hb); have B11 := Lib.hid (B10.out.trans (hb.mono B10.out.size)); clear hb)
    | (refine store_as61 rfl 24 _ _ rfl [.int .i64 0, .string ⟨#[]⟩, .int .i64 0, .slice none 0 0] [.int .i64 0, .string ⟨#[]⟩, .int .i64 0, .slice A11 0 c11] rfl rfl rfl size24 (by simp [Value.oneCell']) ?_; intro w12 hx hb; have R12 := Lib.hid (R11.out.below hb); have X12 := Lib.hid (X11.out.below hb); have B12 := Lib.hid (B11.out.trans (hb.mono B11.out.size)); clear hx hb)
    | fail)
  clear X10 R10 B10 X11 R11 B11
  go_upto_region 8 with (fail)
  have HKy := Lib.hid (x_keys w12)
  have BK := Lib.hid ((((Below.refl w12.heap.size w12).alloc (Nat.le_refl _) (.cells #[.string xE, .int .i64 0, .bool false] 51)).alloc (by simp) (.cells #[.string xD, .int .i64 0, .bool false] 51)).alloc (by simp only [World.size_alloc]; omega) (.cells #[.string xB, .int .i64 0, .int .i64 0, .slice (some ⟨w12.heap.size, 0, none⟩) 1 1, .string xA, .int .i64 0, .int .i64 0, .slice (some ⟨w12.heap.size + 1, 0, none⟩) 1 1] 54))
  generalize hwk : World.alloc _ _ = wk at HKy BK ⊢
  clear hwk
  have XK := Lib.hid (X12.out.below BK.out)
  have RK := Lib.hid (R12.out.below BK.out)
  have BKw := Lib.hid (B12.out.trans (BK.out.mono B12.out.size))
  generalize w12.heap.size + 1 + 1 = g3 at HKy ⊢
  generalize w12.heap.size + 1 = k2 at HKy
  generalize w12.heap.size = k1 at HKy
  clear X12 R12 B12 BK
  go_upto_region 9 with (fail)
  have HM2 := Lib.hid (show Strs ((wk.alloc (.cells #[.string xB, .string xA] 9)).alloc (.cells #[.string xB] 9)) (some ⟨wk.heap.size, 0, none⟩) 2 [xB, xA] from strs_blk (ls := [xB, xA]) ((blk_new wk [.string xB, .string xA] 9).alloc (.cells #[.string xB] 9)) (by decide) (by decide))
  have HM1 := Lib.hid (show Strs ((wk.alloc (.cells #[.string xB, .string xA] 9)).alloc (.cells #[.string xB] 9)) (some ⟨wk.heap.size + 1, 0, none⟩) 1 [xB] from strs_blk (ls := [xB]) (blk_new2 wk (.cells #[.string xB, .string xA] 9) [.string xB] 9) (by decide) (by decide))
  have BM := Lib.hid (((Below.refl wk.heap.size wk).alloc (Nat.le_refl _) (.cells #[.string xB, .string xA] 9)).alloc (by simp) (.cells #[.string xB] 9))
  generalize hwm : World.alloc _ _ = w13 at HM2 HM1 BM ⊢
  clear hwm
  have X13 := Lib.hid (XK.out.below BM.out)
  have R13 := Lib.hid (RK.out.below BM.out)
  have B13 := Lib.hid (BKw.out.trans (BM.out.mono BKw.out.size))
  have HK := Lib.hid (HKy.out.below BM.out)
  generalize wk.heap.size + 1 = m1 at HM1 ⊢
  generalize wk.heap.size = m2 at HM2 ⊢
  clear XK RK BKw BM HKy
  go_upto_region 10 with (first
    | (refine wpList_load_mid rfl 24 _ rfl b1 0 rfl (sC 5 xR 2 A9 1 c9) _ X13.out.range Tryz.underlying24 rfl size24 ?_)
    | (go_at_call 23; (with_reducible refine (l_ren m1 A9 c9 g3 k1 k2 w13 HM1.out HK.out).mono ?_); rintro e w14 ⟨AZ, cZ, AY, cY, rfl, hb⟩; have R14 := Lib.hid (R13.out.below hb); have X14 := Lib.hid (X13.out.below hb); have B14 := Lib.hid (B13.out.trans (hb.mono B13.out.size)); have M2a := Lib.hid (HM2.out.below hb); have M1a := Lib.hid (HM1.out.below hb); have HKa := Lib.hid (HK.out.below hb); clear hb)
    | (refine store_as61 rfl 24 _ _ rfl [.int .i64 0, .string ⟨#[]⟩, .int .i64 0, .slice none 0 0] [.int .i64 6, .string ⟨#[33, 114, 58, 97]⟩, .int .i64 0, .slice AZ 1 cZ] rfl rfl rfl size24 (by simp [Value.oneCell']) ?_; intro w15 hx hb; have R15 := Lib.hid (R14.out.below hb); have X15 := Lib.hid (X14.out.below hb); have B15 := Lib.hid (B14.out.trans (hb.mono B14.out.size)); have Z15 := Lib.hid hx; have M2b := Lib.hid (M2a.out.below hb); have M1b := Lib.hid (M1a.out.below hb); have HKb := Lib.hid (HKa.out.below hb); clear hx hb)
    | fail)
  clear X13 R13 B13 HM2 HM1 HK X14 R14 B14 M2a M1a HKa
  generalize w14.heap.size = z1 at Z15 ⊢
  obtain ⟨i0, hi, hz0, hz1, hz2⟩ := info_parts info55
  have HI0 := Lib.hid (And.intro hi (And.intro hz0 (And.intro hz1 hz2)))
  clear hi hz0 hz1 hz2
  go_upto_region 11 with (first
    | (at_make; refine wpList_make_full _ rfl _ _ 22 rfl w15.heap.size 36 i0 (.agg #[.string ⟨#[]⟩, .string ⟨#[]⟩, .int .i64 0]) 3 Tryz.underlying22 HI0.out.1 HI0.out.2.1 HI0.out.2.2.1 _ _ _ _ 2000 rfl rfl rfl rfl (by rw [HI0.out.2.2.2]; decide) (by unfold maxLen; decide) (Nat.le_refl _) ?_; intro w16 hown hg; have F16 := Lib.hid (made_row hown); have hb := (Below.refl w15.heap.size w15).grown hg (Nat.le_refl _) (by simp); have R16 := Lib.hid (R15.out.below hb); have X16 := Lib.hid (X15.out.below hb); have Z16 := Lib.hid (Z15.out.below hb); have M2c := Lib.hid (M2b.out.below hb); have M1c := Lib.hid (M1b.out.below hb); have HKc := Lib.hid (HKb.out.below hb); have B16 := Lib.hid (B15.out.trans (hb.mono B15.out.size)); clear hown hg hb)
    | (go_at_call 7; (with_reducible refine (l_full (some ⟨w15.heap.size, 0, none⟩) 2000 w16 F16.out).mono ?_); rintro e w17 ⟨AF, cF, rfl, hb⟩; have R17 := Lib.hid (R16.out.below hb); have X17 := Lib.hid (X16.out.below hb); have Z17 := Lib.hid (Z16.out.below hb); have M2d := Lib.hid (M2c.out.below hb); have M1d := Lib.hid (M1c.out.below hb); have HKd := Lib.hid (HKc.out.below hb); have B17 := Lib.hid (B16.out.trans (hb.mono B16.out.size)); clear hb)
    | (refine store_as61 rfl 24 _ _ rfl [.int .i64 0, .string ⟨#[]⟩, .int .i64 0, .slice none 0 0] [.int .i64 0, .string ⟨#[]⟩, .int .i64 0, .slice AF 0 cF] rfl rfl rfl size24 (by simp [Value.oneCell']) ?_; intro w18 hx hb; have R18 := Lib.hid (R17.out.below hb); have X18 := Lib.hid (X17.out.below hb); have Z18 := Lib.hid (Z17.out.below hb); have M2e := Lib.hid (M2d.out.below hb); have M1e := Lib.hid (M1d.out.below hb); have HKe := Lib.hid (HKd.out.below hb); have B18 := Lib.hid (B17.out.trans (hb.mono B17.out.size)); clear hx hb)
    | fail)
  clear X15 R15 B15 Z15 M2b M1b HKb X16 R16 B16 Z16 M2c M1c HKc X17 R17 B17 Z17 M2d M1d HKd F16
  go_upto_region 12 with (fail)
  have O19 := Lib.hid (one22 (blk_new w18 [.string xB, .string xE, .int .i64 2] 36))
  have hb := (Below.refl w18.heap.size w18).alloc (Nat.le_refl _) (.cells #[.string xB, .string xE, .int .i64 2] 36)
  generalize hw19 : World.alloc w18 _ = w19 at O19 hb ⊢
  clear hw19
  have R19 := Lib.hid (R18.out.below hb); have X19 := Lib.hid (X18.out.below hb); have Z19 := Lib.hid (Z18.out.below hb); have M2f := Lib.hid (M2e.out.below hb); have M1f := Lib.hid (M1e.out.below hb); have HKf := Lib.hid (HKe.out.below hb); have B19 := Lib.hid (B18.out.trans (hb.mono B18.out.size)); 
  clear hb X18 R18 B18 Z18 M2e M1e HKe
  generalize w18.heap.size = o1 at O19 ⊢
  have s0 := X19.out.cell (i := 0) rfl
  have s1 := X19.out.cell (i := 1) rfl
  have s2 := X19.out.cell (i := 2) rfl
  have s3 := X19.out.cell (i := 3) rfl
  have zr : (xR.toList == xR.toList) = true := beq_self_eq_true _
  go_wp2_with (first
    | (go_at_call 24; (with_reducible refine (l_rd A9 c9 w19 R19.out 1 true x_rd1).mono ?_); rintro e w20 ⟨rfl, hb⟩; have R20 := Lib.hid (R19.out.below hb); have X20 := Lib.hid (X19.out.below hb); have Z20 := Lib.hid (Z19.out.below hb); have M2g := Lib.hid (M2f.out.below hb); have M1g := Lib.hid (M1f.out.below hb); have HKg := Lib.hid (HKf.out.below hb); have B20 := Lib.hid (B19.out.trans (hb.mono B19.out.size)); clear s0 s1 s2 s3; have s0 := X20.out.cell (i := 0) rfl; have s1 := X20.out.cell (i := 1) rfl; have s2 := X20.out.cell (i := 2) rfl; have s3 := X20.out.cell (i := 3) rfl; have O20 := Lib.hid (O19.out.below hb); clear hb)
    | (go_at_call 24; (with_reducible refine (l_rd A9 c9 w20 R20.out 0 false x_rd0).mono ?_); rintro e w21 ⟨rfl, hb⟩; have R21 := Lib.hid (R20.out.below hb); have X21 := Lib.hid (X20.out.below hb); have Z21 := Lib.hid (Z20.out.below hb); have M2h := Lib.hid (M2g.out.below hb); have M1h := Lib.hid (M1g.out.below hb); have HKh := Lib.hid (HKg.out.below hb); have B21 := Lib.hid (B20.out.trans (hb.mono B20.out.size)); clear s0 s1 s2 s3; have s0 := X21.out.cell (i := 0) rfl; have s1 := X21.out.cell (i := 1) rfl; have s2 := X21.out.cell (i := 2) rfl; have s3 := X21.out.cell (i := 3) rfl; have O21 := Lib.hid (O20.out.below hb); clear hb)
    | (go_at_call 24; (with_reducible refine (l_rd A9 c9 w21 R21.out 2 false x_rd2).mono ?_); rintro e w22 ⟨rfl, hb⟩; have R22 := Lib.hid (R21.out.below hb); have X22 := Lib.hid (X21.out.below hb); have Z22 := Lib.hid (Z21.out.below hb); have M2i := Lib.hid (M2h.out.below hb); have M1i := Lib.hid (M1h.out.below hb); have HKi := Lib.hid (HKh.out.below hb); have B22 := Lib.hid (B21.out.trans (hb.mono B21.out.size)); clear s0 s1 s2 s3; have s0 := X22.out.cell (i := 0) rfl; have s1 := X22.out.cell (i := 1) rfl; have s2 := X22.out.cell (i := 2) rfl; have s3 := X22.out.cell (i := 3) rfl; have O22 := Lib.hid (O21.out.below hb); clear hb)
    | (go_at_call 25; (with_reducible refine (l_want m2 A9 c9 g3 k1 k2 w22 R22.out M2i.out HKi.out).mono ?_); rintro e w23 ⟨AW, cW, rfl, hr, hb⟩; have W23 := Lib.hid hr; have R23 := Lib.hid (R22.out.below hb); have X23 := Lib.hid (X22.out.below hb); have Z23 := Lib.hid (Z22.out.below hb); have M2j := Lib.hid (M2i.out.below hb); have M1j := Lib.hid (M1i.out.below hb); have HKj := Lib.hid (HKi.out.below hb); have B23 := Lib.hid (B22.out.trans (hb.mono B22.out.size)); clear s0 s1 s2 s3; have s0 := X23.out.cell (i := 0) rfl; have s1 := X23.out.cell (i := 1) rfl; have s2 := X23.out.cell (i := 2) rfl; have s3 := X23.out.cell (i := 3) rfl; have O23 := Lib.hid (O22.out.below hb); clear hr hb)
    | (go_at_call 21; (with_reducible refine (same17 AW 1 cW (some ⟨o1, 0, none⟩) 1 1 [⟨xB, xE, 2⟩] w23 W23.out O23.out).mono ?_); rintro e w24 ⟨rfl, hb⟩; have R24 := Lib.hid (R23.out.below hb); have X24 := Lib.hid (X23.out.below hb); have Z24 := Lib.hid (Z23.out.below hb); have M2k := Lib.hid (M2j.out.below hb); have M1k := Lib.hid (M1j.out.below hb); have HKk := Lib.hid (HKj.out.below hb); have B24 := Lib.hid (B23.out.trans (hb.mono B23.out.size)); clear s0 s1 s2 s3; have s0 := X24.out.cell (i := 0) rfl; have s1 := X24.out.cell (i := 1) rfl; have s2 := X24.out.cell (i := 2) rfl; have s3 := X24.out.cell (i := 3) rfl; have O24 := Lib.hid (O23.out.below hb); clear hb)
    | (go_at_call 26; (with_reducible refine (l_stl2 m2 A9 c9 g3 k1 k2 w24 R24.out M2k.out HKk.out).mono ?_); rintro e w25 ⟨rfl, hb⟩; have R25 := Lib.hid (R24.out.below hb); have X25 := Lib.hid (X24.out.below hb); have Z25 := Lib.hid (Z24.out.below hb); have M2l := Lib.hid (M2k.out.below hb); have M1l := Lib.hid (M1k.out.below hb); have HKl := Lib.hid (HKk.out.below hb); have B25 := Lib.hid (B24.out.trans (hb.mono B24.out.size)); clear s0 s1 s2 s3; have s0 := X25.out.cell (i := 0) rfl; have s1 := X25.out.cell (i := 1) rfl; have s2 := X25.out.cell (i := 2) rfl; have s3 := X25.out.cell (i := 3) rfl; have O25 := Lib.hid (O24.out.below hb); clear hb)
    | (go_at_call 26; (with_reducible refine (l_stl1 m1 A9 c9 g3 k1 k2 w25 R25.out M1l.out HKl.out).mono ?_); rintro e w26 ⟨rfl, hb⟩; have R26 := Lib.hid (R25.out.below hb); have X26 := Lib.hid (X25.out.below hb); have Z26 := Lib.hid (Z25.out.below hb); have M2m := Lib.hid (M2l.out.below hb); have M1m := Lib.hid (M1l.out.below hb); have HKm := Lib.hid (HKl.out.below hb); have B26 := Lib.hid (B25.out.trans (hb.mono B25.out.size)); clear s0 s1 s2 s3; have s0 := X26.out.cell (i := 0) rfl; have s1 := X26.out.cell (i := 1) rfl; have s2 := X26.out.cell (i := 2) rfl; have s3 := X26.out.cell (i := 3) rfl; have O26 := Lib.hid (O25.out.below hb); have z0 := Z26.out.cell (i := 0) rfl; have z1 := Z26.out.cell (i := 1) rfl; have z2 := Z26.out.cell (i := 2) rfl; have z3 := Z26.out.cell (i := 3) rfl; clear hb)
    | go_in)
  go_ret
  exact ⟨rfl, B26.out⟩
end Go.Proofs.YtbkchcpfnoclhaaGreat
