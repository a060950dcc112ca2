/- The law's awakening: the walk. No condition. -/
import Derived.Test.YtdacjnlfjaegiaaGreatDoorPPa
namespace Go.Proofs.YtdacjnlfjaegiaaGreatDoor
open Go Go.RowKit
set_option linter.unusedVariables false
set_option linter.unusedSimpArgs false
set_option maxRecDepth 100000

theorem ck_a (w : World) (hl : Lt w) : Calls Tryz.prog 14 #[.int .i64 2, .agg #[.string ⟨#[]⟩, .int .i64 3, .int .i64 0, .bool false, .string ⟨#[]⟩, .slice none 0 0, .slice none 0 0, .slice none 0 0, .slice none 0 0, .int .i64 0, .int .i64 0, .int .i64 0, .int .i64 0, .int .i64 0, .int .i64 0, .int .i64 0]] w fun e w' => e = .returned (.int .i64 0) ∧ Below w.heap.size w w' := check_at 2 ⟨#[]⟩ 3 0 sz0 (by unfold i64B; decide) in0 0 pc1 w hl
theorem ck_b (w : World) (hl : Lt w) : Calls Tryz.prog 14 #[.int .i64 2, .agg #[.string ⟨#[]⟩, .int .i64 5, .int .i64 0, .bool false, .string ⟨#[]⟩, .slice none 0 0, .slice none 0 0, .slice none 0 0, .slice none 0 0, .int .i64 0, .int .i64 0, .int .i64 0, .int .i64 0, .int .i64 0, .int .i64 0, .int .i64 0]] w fun e w' => e = .returned (.int .i64 2) ∧ Below w.heap.size w w' := check_at 2 ⟨#[]⟩ 5 0 sz0 (by unfold i64B; decide) in0 2 pc2 w hl
theorem ck_c (w : World) (hl : Lt w) : Calls Tryz.prog 14 #[.int .i64 12, .agg #[.string ⟨#[]⟩, .int .i64 0, .int .i64 1, .bool false, .string ⟨#[]⟩, .slice none 0 0, .slice none 0 0, .slice none 0 0, .slice none 0 0, .int .i64 0, .int .i64 0, .int .i64 0, .int .i64 0, .int .i64 0, .int .i64 0, .int .i64 0]] w fun e w' => e = .returned (.int .i64 9) ∧ Below w.heap.size w w' := check_at 12 ⟨#[]⟩ 0 1 sz0 in0 (by unfold i64B; decide) 9 pc3 w hl
set_option maxHeartbeats 32000000 in
theorem live16 (w : World) (hl : Lt w) : Calls Tryz.prog 16 #[] w fun e w' => e = .returned (.bool true) ∧ Below w.heap.size w w' := by
  have L0 := Lib.hid hl
  clear hl
  go_enter Tryz.func16, Tryz.ntmps16
  go_upto_region 7 with (first
    | (refine store_as rfl 29 _ _ rfl [.string ⟨#[]⟩, .int .i64 0, .int .i64 0, .bool false, .string ⟨#[]⟩, .slice none 0 0, .slice none 0 0, .slice none 0 0, .slice none 0 0, .int .i64 0, .int .i64 0, .int .i64 0, .int .i64 0, .int .i64 0, .int .i64 0, .int .i64 0] [.string ⟨#[]⟩, .int .i64 3, .int .i64 0, .bool false, .string ⟨#[]⟩, .slice none 0 0, .slice none 0 0, .slice none 0 0, .slice none 0 0, .int .i64 0, .int .i64 0, .int .i64 0, .int .i64 0, .int .i64 0, .int .i64 0, .int .i64 0] rfl rfl rfl size29 (by simp [Value.oneCell']) ?_; intro w1 hx hb; have T1_1 := Lib.hid hx; have B1 := Lib.hid hb; have L1 := Lib.hid (L0.out.below hb); clear hx hb)
    | (refine store_as rfl 29 _ _ rfl [.string ⟨#[]⟩, .int .i64 0, .int .i64 0, .bool false, .string ⟨#[]⟩, .slice none 0 0, .slice none 0 0, .slice none 0 0, .slice none 0 0, .int .i64 0, .int .i64 0, .int .i64 0, .int .i64 0, .int .i64 0, .int .i64 0, .int .i64 0] [.string ⟨#[115, 112, 97, 109]⟩, .int .i64 4, .int .i64 0, .bool false, .string ⟨#[]⟩, .slice none 0 0, .slice none 0 0, .slice none 0 0, .slice none 0 0, .int .i64 0, .int .i64 0, .int .i64 0, .int .i64 0, .int .i64 0, .int .i64 0, .int .i64 0] rfl rfl rfl size29 (by simp [Value.oneCell']) ?_; intro w2 hx hb; have T2_2 := Lib.hid hx; have B2 := Lib.hid (B1.out.trans (hb.mono B1.out.size)); have L2 := Lib.hid (L1.out.below hb); have T1_2 := Lib.hid (T1_1.out.below hb); clear B1 L1 T1_1; clear hx hb)
    | (go_at_call 25; (with_reducible refine (uses25 2 _ L2.out).mono ?_); rintro e w3 ⟨A3, c3, rfl, ht, hb⟩; rw [unL_2] at ht ⊢; have U_3 := Lib.hid ht; have B3 := Lib.hid (B2.out.trans (hb.mono B2.out.size)); have L3 := Lib.hid (L2.out.below hb); have T1_3 := Lib.hid (T1_2.out.below hb); clear B2 L2 T1_2; have T2_3 := Lib.hid (T2_2.out.below hb); clear T2_2; clear ht hb)
    | (go_at_call 29; (with_reducible refine (enc0 _).mono ?_); rintro e w4 ⟨A4, c4, rfl, hs, hb⟩; have S4 := Lib.hid hs; have B4 := Lib.hid (B3.out.trans (hb.mono B3.out.size)); have L4 := Lib.hid (L3.out.below hb); have T1_4 := Lib.hid (T1_3.out.below hb); clear B3 L3 T1_3; have T2_4 := Lib.hid (T2_3.out.below hb); clear T2_3; have U_4 := Lib.hid (U_3.out.below hb); clear U_3; clear hs hb)
    | (go_at_call 30; (with_reducible refine (dec0 A4 c4 _ S4.out).mono ?_); rintro e w5 ⟨pA, pC, pD, pE, rfl, n1, n2, hb⟩; have N1 := Lib.hid n1; have N2 := Lib.hid n2; have B5 := Lib.hid (B4.out.trans (hb.mono B4.out.size)); have L5 := Lib.hid (L4.out.below hb); have T1_5 := Lib.hid (T1_4.out.below hb); clear B4 L4 T1_4; have T2_5 := Lib.hid (T2_4.out.below hb); clear T2_4; have U_5 := Lib.hid (U_4.out.below hb); clear U_4; clear n1 n2 hb)
    | (refine store_as rfl 29 _ _ rfl [.string ⟨#[]⟩, .int .i64 0, .int .i64 0, .bool false, .string ⟨#[]⟩, .slice none 0 0, .slice none 0 0, .slice none 0 0, .slice none 0 0, .int .i64 0, .int .i64 0, .int .i64 0, .int .i64 0, .int .i64 0, .int .i64 0, .int .i64 0] [.string ⟨#[]⟩, .int .i64 0, .int .i64 0, .bool false, .string ⟨#[]⟩, .slice pA 0 pC, .slice pD 0 pE, .slice none 0 0, .slice none 0 0, .int .i64 0, .int .i64 0, .int .i64 0, .int .i64 0, .int .i64 0, .int .i64 0, .int .i64 0] rfl rfl rfl size29 (by simp [Value.oneCell']) ?_; intro w6 hx hb; have T5_6 := Lib.hid hx; have B6 := Lib.hid (B5.out.trans (hb.mono B5.out.size)); have L6 := Lib.hid (L5.out.below hb); have T1_6 := Lib.hid (T1_5.out.below hb); clear B5 L5 T1_5; have T2_6 := Lib.hid (T2_5.out.below hb); clear T2_5; have U_6 := Lib.hid (U_5.out.below hb); clear U_5; clear hx hb)
    | (go_at_call 30; (with_reducible refine (decn _).mono ?_); rintro e w7 ⟨qA, qC, qD, qE, rfl, hb⟩; have B7 := Lib.hid (B6.out.trans (hb.mono B6.out.size)); have L7 := Lib.hid (L6.out.below hb); have T1_7 := Lib.hid (T1_6.out.below hb); clear B6 L6 T1_6; have T2_7 := Lib.hid (T2_6.out.below hb); clear T2_6; have U_7 := Lib.hid (U_6.out.below hb); clear U_6; have T5_7 := Lib.hid (T5_6.out.below hb); clear T5_6; clear hb)
    | (refine store_as rfl 29 _ _ rfl [.string ⟨#[]⟩, .int .i64 0, .int .i64 0, .bool false, .string ⟨#[]⟩, .slice none 0 0, .slice none 0 0, .slice none 0 0, .slice none 0 0, .int .i64 0, .int .i64 0, .int .i64 0, .int .i64 0, .int .i64 0, .int .i64 0, .int .i64 0] [.string ⟨#[]⟩, .int .i64 0, .int .i64 0, .bool false, .string ⟨#[]⟩, .slice qA 0 qC, .slice qD 0 qE, .slice none 0 0, .slice none 0 0, .int .i64 0, .int .i64 0, .int .i64 0, .int .i64 0, .int .i64 0, .int .i64 0, .int .i64 0] rfl rfl rfl size29 (by simp [Value.oneCell']) ?_; intro w8 hx hb; have B8 := Lib.hid (B7.out.trans (hb.mono B7.out.size)); have L8 := Lib.hid (L7.out.below hb); have T1_8 := Lib.hid (T1_7.out.below hb); clear B7 L7 T1_7; have T2_8 := Lib.hid (T2_7.out.below hb); clear T2_7; have U_8 := Lib.hid (U_7.out.below hb); clear U_7; have T5_8 := Lib.hid (T5_7.out.below hb); clear T5_7; clear hx hb)
    | (fail))
  obtain ⟨b3, o3, rfl, _⟩ := U_8.out.get (show 0 < 3 by decide)
  simp only [List.append_eq, List.cons_append, List.nil_append]
  go_wp2_with (first
    | (refine wpList_load_mid rfl 29 _ rfl _ 0 rfl [.string ⟨#[]⟩, .int .i64 3, .int .i64 0, .bool false, .string ⟨#[]⟩, .slice none 0 0, .slice none 0 0, .slice none 0 0, .slice none 0 0, .int .i64 0, .int .i64 0, .int .i64 0, .int .i64 0, .int .i64 0, .int .i64 0, .int .i64 0] _ T1_8.out.range Tryz.underlying29 rfl size29 ?_)
    | (refine load_mid_g (by kernel_rfl) 29 _ rfl _ 0 rfl [.string ⟨#[]⟩, .int .i64 3, .int .i64 0, .bool false, .string ⟨#[]⟩, .slice none 0 0, .slice none 0 0, .slice none 0 0, .slice none 0 0, .int .i64 0, .int .i64 0, .int .i64 0, .int .i64 0, .int .i64 0, .int .i64 0, .int .i64 0] _ T1_8.out.range Tryz.underlying29 rfl size29 ?_)
    | (go_at_call 14; (with_reducible refine (ck_a _ L8.out).mono ?_); rintro e w9 ⟨rfl, hb⟩; have B9 := Lib.hid (B8.out.trans (hb.mono B8.out.size)); have L9 := Lib.hid (L8.out.below hb); have T1_9 := Lib.hid (T1_8.out.below hb); clear B8 L8 T1_8; have T2_9 := Lib.hid (T2_8.out.below hb); clear T2_8; have U_9 := Lib.hid (U_8.out.below hb); clear U_8; have T5_9 := Lib.hid (T5_8.out.below hb); clear T5_8; clear hb)
    | fail)
  go_wp2_with (first
    | (go_at_call 14; (with_reducible refine (ck_b _ L9.out).mono ?_); rintro e w10 ⟨rfl, hb⟩; have B10 := Lib.hid (B9.out.trans (hb.mono B9.out.size)); have L10 := Lib.hid (L9.out.below hb); have T1_10 := Lib.hid (T1_9.out.below hb); clear B9 L9 T1_9; have T2_10 := Lib.hid (T2_9.out.below hb); clear T2_9; have U_10 := Lib.hid (U_9.out.below hb); clear U_9; have T5_10 := Lib.hid (T5_9.out.below hb); clear T5_9; clear hb)
    | fail)
  go_wp2_with (first
    | (go_at_call 14; (with_reducible refine (ck_c _ L10.out).mono ?_); rintro e w11 ⟨rfl, hb⟩; have B11 := Lib.hid (B10.out.trans (hb.mono B10.out.size)); have L11 := Lib.hid (L10.out.below hb); have T1_11 := Lib.hid (T1_10.out.below hb); clear B10 L10 T1_10; have T2_11 := Lib.hid (T2_10.out.below hb); clear T2_10; have U_11 := Lib.hid (U_10.out.below hb); clear U_10; have T5_11 := Lib.hid (T5_10.out.below hb); clear T5_10; clear hb; have x0 := (txs3 U_11.out).1; have x1 := (txs3 U_11.out).2.1; have x2 := (txs3 U_11.out).2.2; clear U_11)
    | (refine wpList_load_mid rfl 29 _ rfl _ 0 rfl [.string ⟨#[115, 112, 97, 109]⟩, .int .i64 4, .int .i64 0, .bool false, .string ⟨#[]⟩, .slice none 0 0, .slice none 0 0, .slice none 0 0, .slice none 0 0, .int .i64 0, .int .i64 0, .int .i64 0, .int .i64 0, .int .i64 0, .int .i64 0, .int .i64 0] _ T2_11.out.range Tryz.underlying29 rfl size29 ?_)
    | (refine load_mid_g (by kernel_rfl) 29 _ rfl _ 0 rfl [.string ⟨#[115, 112, 97, 109]⟩, .int .i64 4, .int .i64 0, .bool false, .string ⟨#[]⟩, .slice none 0 0, .slice none 0 0, .slice none 0 0, .slice none 0 0, .int .i64 0, .int .i64 0, .int .i64 0, .int .i64 0, .int .i64 0, .int .i64 0, .int .i64 0] _ T2_11.out.range Tryz.underlying29 rfl size29 ?_)
    | fail)
  go_wp2_with (first
    | (go_at_call 21; refine (strip_at _ L11.out).mono ?_; rintro e w12 ⟨aL, rfl, hi, hb⟩; have I12 := Lib.hid hi; have B12 := Lib.hid (B11.out.trans (hb.mono B11.out.size)); have L12 := Lib.hid (L11.out.below hb); have T1_12 := Lib.hid (T1_11.out.below hb); clear B11 L11 T1_11; have T2_12 := Lib.hid (T2_11.out.below hb); clear T2_11; have T5_12 := Lib.hid (T5_11.out.below hb); clear T5_11; clear hi hb x0 x1 x2)
    | fail)
  go_wp2_with (first
    | (go_at_call 20; refine (same_a aL _ I12.out).mono ?_; rintro e w13 ⟨rfl, hb⟩; have B13 := Lib.hid (B12.out.trans (hb.mono B12.out.size)); have L13 := Lib.hid (L12.out.below hb); have T1_13 := Lib.hid (T1_12.out.below hb); clear B12 L12 T1_12; have T2_13 := Lib.hid (T2_12.out.below hb); clear T2_12; have T5_13 := Lib.hid (T5_12.out.below hb); clear T5_12; clear hb I12)
    | (refine wpList_load_mid rfl 29 _ rfl _ 0 rfl [.string ⟨#[115, 112, 97, 109]⟩, .int .i64 4, .int .i64 0, .bool false, .string ⟨#[]⟩, .slice none 0 0, .slice none 0 0, .slice none 0 0, .slice none 0 0, .int .i64 0, .int .i64 0, .int .i64 0, .int .i64 0, .int .i64 0, .int .i64 0, .int .i64 0] _ T2_13.out.range Tryz.underlying29 rfl size29 ?_)
    | (refine load_mid_g (by kernel_rfl) 29 _ rfl _ 0 rfl [.string ⟨#[115, 112, 97, 109]⟩, .int .i64 4, .int .i64 0, .bool false, .string ⟨#[]⟩, .slice none 0 0, .slice none 0 0, .slice none 0 0, .slice none 0 0, .int .i64 0, .int .i64 0, .int .i64 0, .int .i64 0, .int .i64 0, .int .i64 0, .int .i64 0] _ T2_13.out.range Tryz.underlying29 rfl size29 ?_)
    | (refine wpList_load_mid rfl 29 _ rfl _ 0 rfl [.string ⟨#[]⟩, .int .i64 3, .int .i64 0, .bool false, .string ⟨#[]⟩, .slice none 0 0, .slice none 0 0, .slice none 0 0, .slice none 0 0, .int .i64 0, .int .i64 0, .int .i64 0, .int .i64 0, .int .i64 0, .int .i64 0, .int .i64 0] _ T1_13.out.range Tryz.underlying29 rfl size29 ?_)
    | (refine load_mid_g (by kernel_rfl) 29 _ rfl _ 0 rfl [.string ⟨#[]⟩, .int .i64 3, .int .i64 0, .bool false, .string ⟨#[]⟩, .slice none 0 0, .slice none 0 0, .slice none 0 0, .slice none 0 0, .int .i64 0, .int .i64 0, .int .i64 0, .int .i64 0, .int .i64 0, .int .i64 0, .int .i64 0] _ T1_13.out.range Tryz.underlying29 rfl size29 ?_)
    | fail)
  go_wp2_with (first
    | (go_at_call 20; (with_reducible refine (same_b _).mono ?_); rintro e w14 ⟨rfl, hb⟩; have B14 := Lib.hid (B13.out.trans (hb.mono B13.out.size)); have L14 := Lib.hid (L13.out.below hb); have T1_14 := Lib.hid (T1_13.out.below hb); clear B13 L13 T1_13; have T2_14 := Lib.hid (T2_13.out.below hb); clear T2_13; have T5_14 := Lib.hid (T5_13.out.below hb); clear T5_13; clear hb)
    | (refine wpList_load_mid rfl 29 _ rfl _ 0 rfl [.string ⟨#[]⟩, .int .i64 0, .int .i64 0, .bool false, .string ⟨#[]⟩, .slice pA 0 pC, .slice pD 0 pE, .slice none 0 0, .slice none 0 0, .int .i64 0, .int .i64 0, .int .i64 0, .int .i64 0, .int .i64 0, .int .i64 0, .int .i64 0] _ T5_14.out.range Tryz.underlying29 rfl size29 ?_)
    | (refine load_mid_g (by kernel_rfl) 29 _ rfl _ 0 rfl [.string ⟨#[]⟩, .int .i64 0, .int .i64 0, .bool false, .string ⟨#[]⟩, .slice pA 0 pC, .slice pD 0 pE, .slice none 0 0, .slice none 0 0, .int .i64 0, .int .i64 0, .int .i64 0, .int .i64 0, .int .i64 0, .int .i64 0, .int .i64 0] _ T5_14.out.range Tryz.underlying29 rfl size29 ?_)
    | fail)
  go_wp2_with (first
    | (go_at_call 20; (with_reducible refine (same_c pA pC pD pE N1.out N2.out _).mono ?_); rintro e w15 ⟨rfl, hb⟩; have B15 := Lib.hid (B14.out.trans (hb.mono B14.out.size)); clear hb B14 T1_14 T2_14 T5_14 N1 N2 L14)
    | fail)
  go_wp2_with (first
    | (go_at_call 27; (with_reducible refine (state27 10 true rfl _).mono ?_); rintro e wk ⟨rfl, rfl⟩)
    | fail)
  go_wp2_with (first
    | (go_at_call 27; (with_reducible refine (state27 11 false rfl _).mono ?_); rintro e wk ⟨rfl, rfl⟩)
    | (go_at_call 18; refine (levels_at _).mono ?_; rintro e w16 ⟨rfl, hb⟩; have B16 := Lib.hid (B15.out.trans (hb.mono B15.out.size)); clear hb)
    | fail)
  go_ret
  exact ⟨rfl, B16.out⟩
end Go.Proofs.YtdacjnlfjaegiaaGreatDoor
