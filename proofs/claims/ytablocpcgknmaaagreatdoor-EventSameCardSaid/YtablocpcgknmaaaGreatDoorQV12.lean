/- The reference of Encode. No condition. -/
import Derived.Test.YtablocpcgknmaaaGreatDoorQV11
namespace Go.Proofs.YtablocpcgknmaaaGreatDoor
open Go.Lib (hid)
open Go Go.RowKit
set_option linter.unusedVariables false
set_option linter.unusedSimpArgs false
set_option maxRecDepth 100000

set_option maxHeartbeats 16000000 in
theorem rencode39 (E : Ew) (a : Aw) (w : World) (h : IsE w E a) (hs : SmZ E) : Calls Tryz.prog 39 #[.agg (ecs E a).toArray] w (SlR w (encE E)) := by
 unfold SlR
 have HE := hid h
 have HS := hid hs
 have HCT := hid (fun y (hb : Below w.heap.size w y) => rencode31 E.c a.c y (h.c.below hb) hs.c)
 unfold SlR at HCT
 have HTZ := hid (ctT_sz h hs)
 have HBD := hid (encE_bd h hs).1
 have HQ := hid (show encE E = ((((((((((((eI E.id ++ Cd.ent E.rm) ++ Cd.ent E.sd) ++ eI E.kd) ++ [if E.st then (1 : Int) else 0]) ++ Cd.ent E.ky) ++ eI E.tm) ++ eI E.dp) ++ encJ E.pv) ++ encJ E.au) ++ Cd.ent (ctT E)) ++ eI E.hs) ++ Cd.ent E.sv) ++ eI E.sm from rfl)
 obtain ⟨t, ht⟩ : ∃ t, ctT E = t := ⟨_, rfl⟩
 rw [ht] at HTZ HQ
 have HT := hid (show strOfNums (encC E.c) = t from ht)
 have HTL := hid (show (Cd.ent t).length ≤ 620011 by have h1 := HTZ.out; have := (ent_big (show t.size ≤ 640000 by omega)).2; omega)
 generalize encE E = zF at HQ HBD ⊢
 have B0 := hid ((Below.refl w.heap.size w).alloc (Nat.le_refl _) (.cells #[.int .i64 E.id, .string E.rm, .string E.sd, .int .i64 E.kd, .bool E.st, .string E.ky, .int .i64 E.tm, .int .i64 E.dp, .slice a.pA E.pv.length a.pC, .slice a.qA E.au.length a.qC, .string E.c.tx, .int .i64 E.c.n, .int .i64 E.c.tg, .bool E.c.th, .string E.c.via, .slice a.c.aA E.c.al.length a.c.aC, .slice a.c.dA E.c.dn.length a.c.dC, .slice a.c.uA E.c.us.length a.c.uC, .slice a.c.kA E.c.ks.length a.c.kC, .int .i64 E.c.d, .int .i64 E.c.x3, .int .i64 E.c.x4, .int .i64 E.c.x5, .int .i64 E.c.x6, .int .i64 E.c.x7, .int .i64 E.c.x8, .int .i64 E.hs, .string E.sv, .int .i64 E.sm] 34))
 have X0 := hid (blk_new w [.int .i64 E.id, .string E.rm, .string E.sd, .int .i64 E.kd, .bool E.st, .string E.ky, .int .i64 E.tm, .int .i64 E.dp, .slice a.pA E.pv.length a.pC, .slice a.qA E.au.length a.qC, .string E.c.tx, .int .i64 E.c.n, .int .i64 E.c.tg, .bool E.c.th, .string E.c.via, .slice a.c.aA E.c.al.length a.c.aC, .slice a.c.dA E.c.dn.length a.c.dC, .slice a.c.uA E.c.us.length a.c.uC, .slice a.c.kA E.c.ks.length a.c.kC, .int .i64 E.c.d, .int .i64 E.c.x3, .int .i64 E.c.x4, .int .i64 E.c.x5, .int .i64 E.c.x6, .int .i64 E.c.x7, .int .i64 E.c.x8, .int .i64 E.hs, .string E.sv, .int .i64 E.sm] 34)
 clear h hs ht
 show Calls Tryz.prog 39 #[.agg #[.int .i64 E.id, .string E.rm, .string E.sd, .int .i64 E.kd, .bool E.st, .string E.ky, .int .i64 E.tm, .int .i64 E.dp, .slice a.pA E.pv.length a.pC, .slice a.qA E.au.length a.qC, .string E.c.tx, .int .i64 E.c.n, .int .i64 E.c.tg, .bool E.c.th, .string E.c.via, .slice a.c.aA E.c.al.length a.c.aC, .slice a.c.dA E.c.dn.length a.c.dC, .slice a.c.uA E.c.us.length a.c.uC, .slice a.c.kA E.c.ks.length a.c.kC, .int .i64 E.c.d, .int .i64 E.c.x3, .int .i64 E.c.x4, .int .i64 E.c.x5, .int .i64 E.c.x6, .int .i64 E.c.x7, .int .i64 E.c.x8, .int .i64 E.hs, .string E.sv, .int .i64 E.sm]] w _
 generalize hW0 : w.alloc (.cells #[.int .i64 E.id, .string E.rm, .string E.sd, .int .i64 E.kd, .bool E.st, .string E.ky, .int .i64 E.tm, .int .i64 E.dp, .slice a.pA E.pv.length a.pC, .slice a.qA E.au.length a.qC, .string E.c.tx, .int .i64 E.c.n, .int .i64 E.c.tg, .bool E.c.th, .string E.c.via, .slice a.c.aA E.c.al.length a.c.aC, .slice a.c.dA E.c.dn.length a.c.dC, .slice a.c.uA E.c.us.length a.c.uC, .slice a.c.kA E.c.ks.length a.c.kC, .int .i64 E.c.d, .int .i64 E.c.x3, .int .i64 E.c.x4, .int .i64 E.c.x5, .int .i64 E.c.x6, .int .i64 E.c.x7, .int .i64 E.c.x8, .int .i64 E.hs, .string E.sv, .int .i64 E.sm] 34) = y0 at B0 X0
 go_enter Tryz.func39, Tryz.ntmps39
 go_upto_region 1 with (fail)
 have x0 := X0.out.cell (i := 0) rfl
 go_upto_region 2 with (first
  | (go_at_call 79; (have HM := (show Calls Tryz.prog 79 #[.slice none 0 0, .int .i64 E.id] y0 (SlP y0 ([] ++ eI E.id)) from (rI E.id HE.out.id y0 none 0 [] (Cd.Sl.empty _ none 0 (fun _ => rfl)) (Nat.zero_le _)))); unfold SlP at HM; (rw [List.nil_append] at HM); obtain ⟨z1, hz1⟩ : ∃ z, z = eI E.id := ⟨_, rfl⟩; rw [← hz1] at HM; (with_reducible refine HM.mono ?_); clear HM; rintro e y1 ⟨A1, c1, rfl, hs, ho, hb⟩; have S1 := hid hs; have X1 := hid (X0.out.below hb); have B1 := hid (B0.out.trans (hb.mono B0.out.size)); have Q1 := hid hz1; have L1 := hid (show z1.length ≤ 11 by rw [hz1]; have := (eI_bd HE.out.id).2; omega); clear hs ho hb hz1 x0)
  | fail)
 have x1 := X1.out.cell (i := 1) rfl
 go_upto_region 3 with (first
  | (go_at_call 80; (have HM := rT E.rm HS.out.rm y1 A1 c1 z1 S1.out (by have := L1.out; omega)); unfold SlP at HM; obtain ⟨z2, hz2⟩ : ∃ z, z = z1 ++ Cd.ent E.rm := ⟨_, rfl⟩; rw [← hz2] at HM; (with_reducible refine HM.mono ?_); clear HM; rintro e y2 ⟨A2, c2, rfl, hs, ho, hb⟩; have S2 := hid hs; have X2 := hid (X1.out.below hb); have B2 := hid (B1.out.trans (hb.mono B1.out.size)); have Q2 := hid hz2; have L2 := hid (show z2.length ≤ 1022 by rw [hz2, List.length_append]; have h1 := (ent_bd2 HS.out.rm).2; have h2 := L1.out; omega); clear hs ho hb hz2 x1)
  | fail)
 have x2 := X2.out.cell (i := 2) rfl
 go_upto_region 4 with (first
  | (go_at_call 80; (have HM := rT E.sd HS.out.sd y2 A2 c2 z2 S2.out (by have := L2.out; omega)); unfold SlP at HM; obtain ⟨z3, hz3⟩ : ∃ z, z = z2 ++ Cd.ent E.sd := ⟨_, rfl⟩; rw [← hz3] at HM; (with_reducible refine HM.mono ?_); clear HM; rintro e y3 ⟨A3, c3, rfl, hs, ho, hb⟩; have S3 := hid hs; have X3 := hid (X2.out.below hb); have B3 := hid (B2.out.trans (hb.mono B2.out.size)); have Q3 := hid hz3; have L3 := hid (show z3.length ≤ 2033 by rw [hz3, List.length_append]; have h1 := (ent_bd2 HS.out.sd).2; have h2 := L2.out; omega); clear hs ho hb hz3 x2)
  | fail)
 have x3 := X3.out.cell (i := 3) rfl
 go_upto_region 5 with (first
  | (go_at_call 79; (have HM := rI E.kd HE.out.kd y3 A3 c3 z3 S3.out (by have := L3.out; omega)); unfold SlP at HM; obtain ⟨z4, hz4⟩ : ∃ z, z = z3 ++ eI E.kd := ⟨_, rfl⟩; rw [← hz4] at HM; (with_reducible refine HM.mono ?_); clear HM; rintro e y4 ⟨A4, c4, rfl, hs, ho, hb⟩; have S4 := hid hs; have X4 := hid (X3.out.below hb); have B4 := hid (B3.out.trans (hb.mono B3.out.size)); have Q4 := hid hz4; have L4 := hid (show z4.length ≤ 2044 by rw [hz4, List.length_append]; have h1 := (eI_bd HE.out.kd).2; have h2 := L3.out; omega); clear hs ho hb hz4 x3)
  | fail)
 have x4 := X4.out.cell (i := 4) rfl
 go_upto_region 6 with (first
  | (go_at_call 81; (have HM := rB E.st y4 A4 c4 z4 S4.out (by have := L4.out; omega)); unfold SlP at HM; obtain ⟨z5, hz5⟩ : ∃ z, z = z4 ++ [if E.st then (1 : Int) else 0] := ⟨_, rfl⟩; rw [← hz5] at HM; (with_reducible refine HM.mono ?_); clear HM; rintro e y5 ⟨A5, c5, rfl, hs, ho, hb⟩; have S5 := hid hs; have X5 := hid (X4.out.below hb); have B5 := hid (B4.out.trans (hb.mono B4.out.size)); have Q5 := hid hz5; have L5 := hid (show z5.length ≤ 2045 by rw [hz5, List.length_append]; have h1 := (show ([if E.st then (1 : Int) else 0] : List Int).length ≤ 1 from Nat.le_refl 1); have h2 := L4.out; omega); clear hs ho hb hz5 x4)
  | fail)
 have x5 := X5.out.cell (i := 5) rfl
 go_upto_region 7 with (first
  | (go_at_call 80; (have HM := rT E.ky HS.out.ky y5 A5 c5 z5 S5.out (by have := L5.out; omega)); unfold SlP at HM; obtain ⟨z6, hz6⟩ : ∃ z, z = z5 ++ Cd.ent E.ky := ⟨_, rfl⟩; rw [← hz6] at HM; (with_reducible refine HM.mono ?_); clear HM; rintro e y6 ⟨A6, c6, rfl, hs, ho, hb⟩; have S6 := hid hs; have X6 := hid (X5.out.below hb); have B6 := hid (B5.out.trans (hb.mono B5.out.size)); have Q6 := hid hz6; have L6 := hid (show z6.length ≤ 3056 by rw [hz6, List.length_append]; have h1 := (ent_bd2 HS.out.ky).2; have h2 := L5.out; omega); clear hs ho hb hz6 x5)
  | fail)
 have x6 := X6.out.cell (i := 6) rfl
 go_upto_region 8 with (first
  | (go_at_call 79; (have HM := rI E.tm HE.out.tm y6 A6 c6 z6 S6.out (by have := L6.out; omega)); unfold SlP at HM; obtain ⟨z7, hz7⟩ : ∃ z, z = z6 ++ eI E.tm := ⟨_, rfl⟩; rw [← hz7] at HM; (with_reducible refine HM.mono ?_); clear HM; rintro e y7 ⟨A7, c7, rfl, hs, ho, hb⟩; have S7 := hid hs; have X7 := hid (X6.out.below hb); have B7 := hid (B6.out.trans (hb.mono B6.out.size)); have Q7 := hid hz7; have L7 := hid (show z7.length ≤ 3067 by rw [hz7, List.length_append]; have h1 := (eI_bd HE.out.tm).2; have h2 := L6.out; omega); clear hs ho hb hz7 x6)
  | fail)
 have x7 := X7.out.cell (i := 7) rfl
 go_upto_region 9 with (first
  | (go_at_call 79; (have HM := rI E.dp HE.out.dp y7 A7 c7 z7 S7.out (by have := L7.out; omega)); unfold SlP at HM; obtain ⟨z8, hz8⟩ : ∃ z, z = z7 ++ eI E.dp := ⟨_, rfl⟩; rw [← hz8] at HM; (with_reducible refine HM.mono ?_); clear HM; rintro e y8 ⟨A8, c8, rfl, hs, ho, hb⟩; have S8 := hid hs; have X8 := hid (X7.out.below hb); have B8 := hid (B7.out.trans (hb.mono B7.out.size)); have Q8 := hid hz8; have L8 := hid (show z8.length ≤ 3078 by rw [hz8, List.length_append]; have h1 := (eI_bd HE.out.dp).2; have h2 := L7.out; omega); clear hs ho hb hz8 x7)
  | fail)
 have x8 := X8.out.cell (i := 8) rfl
 go_upto_region 10 with (first
  | (go_at_call 82; (have HM := rJ a.pA a.pC E.pv y8 A8 c8 z8 S8.out (by have := L8.out; omega) (HE.out.pv.below B8.out) HS.out.pv); unfold SlP at HM; obtain ⟨z9, hz9⟩ : ∃ z, z = z8 ++ encJ E.pv := ⟨_, rfl⟩; rw [← hz9] at HM; (with_reducible refine HM.mono ?_); clear HM; rintro e y9 ⟨A9, c9, rfl, hs, ho, hb⟩; have S9 := hid hs; have X9 := hid (X8.out.below hb); have B9 := hid (B8.out.trans (hb.mono B8.out.size)); have Q9 := hid hz9; have L9 := hid (show z9.length ≤ 4189 by rw [hz9, List.length_append]; have h1 := (encJ_bd HE.out.pv.fit HS.out.pv).2; have h2 := L8.out; omega); clear hs ho hb hz9 x8)
  | fail)
 have x9 := X9.out.cell (i := 9) rfl
 go_upto_region 11 with (first
  | (go_at_call 82; (have HM := rJ a.qA a.qC E.au y9 A9 c9 z9 S9.out (by have := L9.out; omega) (HE.out.au.below B9.out) HS.out.au); unfold SlP at HM; obtain ⟨z10, hz10⟩ : ∃ z, z = z9 ++ encJ E.au := ⟨_, rfl⟩; rw [← hz10] at HM; (with_reducible refine HM.mono ?_); clear HM; rintro e y10 ⟨A10, c10, rfl, hs, ho, hb⟩; have S10 := hid hs; have X10 := hid (X9.out.below hb); have B10 := hid (B9.out.trans (hb.mono B9.out.size)); have Q10 := hid hz10; have L10 := hid (show z10.length ≤ 5300 by rw [hz10, List.length_append]; have h1 := (encJ_bd HE.out.au.fit HS.out.au).2; have h2 := L9.out; omega); clear hs ho hb hz10 x9)
  | fail)
 go_upto_region 12 with (first
  | (refine wpList_load_mid rfl 30 _ rfl w.heap.size 10 rfl (ccs E.c a.c) _ (X10.out.mid 10 16) Tryz.underlying30 rfl size29 ?_)
  | (go_at_call 52; (with_reducible refine (HCT.out y10 B10.out).mono ?_); rintro e yc ⟨Ac, cc, rfl, hs, hb⟩; have SC := hid (S10.out.below hb); have XC := hid (X10.out.below hb); have BC := hid (B10.out.trans (hb.mono B10.out.size)); have hcv := Cd.conv_sl hs; rw [HT.out] at hcv; clear hs hb)
  | (go_at_call 80; (have HM := rX t (Nat.le_trans HTZ.out (by decide)) yc A10 c10 z10 SC.out (by have := L10.out; omega)); unfold SlP at HM; obtain ⟨z11, hz11⟩ : ∃ z, z = z10 ++ Cd.ent t := ⟨_, rfl⟩; rw [← hz11] at HM; (with_reducible refine HM.mono ?_); clear HM; rintro e y11 ⟨A11, c11, rfl, hs, ho, hb⟩; have S11 := hid hs; have X11 := hid (XC.out.below hb); have B11 := hid (BC.out.trans (hb.mono BC.out.size)); have Q11 := hid hz11; have L11 := hid (show z11.length ≤ 625311 by rw [hz11, List.length_append]; have h1 := HTL.out; have h2 := L10.out; omega); clear hs ho hb hz11  hcv)
  | fail)
 have x26 := X11.out.cell (i := 26) rfl
 go_upto_region 13 with (first
  | (go_at_call 79; (have HM := rI E.hs HE.out.hs y11 A11 c11 z11 S11.out (by have := L11.out; omega)); unfold SlP at HM; obtain ⟨z12, hz12⟩ : ∃ z, z = z11 ++ eI E.hs := ⟨_, rfl⟩; rw [← hz12] at HM; (with_reducible refine HM.mono ?_); clear HM; rintro e y12 ⟨A12, c12, rfl, hs, ho, hb⟩; have S12 := hid hs; have X12 := hid (X11.out.below hb); have B12 := hid (B11.out.trans (hb.mono B11.out.size)); have Q12 := hid hz12; have L12 := hid (show z12.length ≤ 625322 by rw [hz12, List.length_append]; have h1 := (eI_bd HE.out.hs).2; have h2 := L11.out; omega); clear hs ho hb hz12 x26)
  | fail)
 have x27 := X12.out.cell (i := 27) rfl
 go_upto_region 14 with (first
  | (go_at_call 80; (have HM := rT E.sv HS.out.sv y12 A12 c12 z12 S12.out (by have := L12.out; omega)); unfold SlP at HM; obtain ⟨z13, hz13⟩ : ∃ z, z = z12 ++ Cd.ent E.sv := ⟨_, rfl⟩; rw [← hz13] at HM; (with_reducible refine HM.mono ?_); clear HM; rintro e y13 ⟨A13, c13, rfl, hs, ho, hb⟩; have S13 := hid hs; have X13 := hid (X12.out.below hb); have B13 := hid (B12.out.trans (hb.mono B12.out.size)); have Q13 := hid hz13; have L13 := hid (show z13.length ≤ 626333 by rw [hz13, List.length_append]; have h1 := (ent_bd2 HS.out.sv).2; have h2 := L12.out; omega); clear hs ho hb hz13 x27)
  | fail)
 have x28 := X13.out.cell (i := 28) rfl
 go_wp2_with (first
  | (go_at_call 79; (have HM := rI E.sm HE.out.sm y13 A13 c13 z13 S13.out (by have := L13.out; omega)); unfold SlP at HM; obtain ⟨z14, hz14⟩ : ∃ z, z = z13 ++ eI E.sm := ⟨_, rfl⟩; rw [← hz14] at HM; (with_reducible refine HM.mono ?_); clear HM; rintro e y14 ⟨A14, c14, rfl, hs, ho, hb⟩; have S14 := hid hs; have X14 := hid (X13.out.below hb); have B14 := hid (B13.out.trans (hb.mono B13.out.size)); have Q14 := hid hz14; have L14 := hid (show z14.length ≤ 626344 by rw [hz14, List.length_append]; have h1 := (eI_bd HE.out.sm).2; have h2 := L13.out; omega); clear hs ho hb hz14 x28)
  | fail)
 go_ret
 have HF := hid (show z14 = zF by rw [HQ.out, Q14.out, Q13.out, Q12.out, Q11.out, Q10.out, Q9.out, Q8.out, Q7.out, Q6.out, Q5.out, Q4.out, Q3.out, Q2.out, Q1.out])
 rw [← HF.out]
 exact ⟨A14, c14, rfl, S14.out, B14.out⟩
end Go.Proofs.YtablocpcgknmaaaGreatDoor
