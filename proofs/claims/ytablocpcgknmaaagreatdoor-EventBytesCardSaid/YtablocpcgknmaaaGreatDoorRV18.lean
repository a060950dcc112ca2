/- The harness function that all statements run lives. No condition. -/
import Derived.Test.YtablocpcgknmaaaGreatDoorRPa
import Derived.Test.YtablocpcgknmaaaGreatDoorRV16
namespace Go.Proofs.YtablocpcgknmaaaGreatDoor
open Go.Lib (hid)
open Go Go.RowKit
set_option linter.unusedVariables false
set_option linter.unusedSimpArgs false
set_option maxRecDepth 100000

set_option maxHeartbeats 16000000 in
theorem lives14 (w : World) (hl : Lt w) : Calls Tryz.prog 14 #[] w fun e w' => e = .returned (.bool true) ∧ Below w.heap.size w w' := by
 have HL := hid hl
 have HSM := hid (fun y => sample42 y)
 have HSG := hid (fun b y (hi : IsE y eS b) (hb : Below w.heap.size w y) => sign26 eS b ⟨#[115]⟩ y hi eS_smz (HL.out.below hb) (by decide))
 have HCK := hid (fun b y (hi : IsE y eS b) (hb : Below w.heap.size w y) => check15 eS b y hi (HL.out.below hb))
 rw [show chk7 eS = 0 from eS_chk _ (frm_S _ rfl rfl rfl rfl rfl rfl rfl rfl rfl) rfl (.inl rfl)] at HCK
 have SG := hid (show SgS (sgnE eS ⟨#[115]⟩) from sgS)
 generalize sgnE eS ⟨#[115]⟩ = S at HSG SG
 generalize eS = T at HSM HSG HCK
 have HR := hid (fun b y (hi : IsE y S b) (hb : Below w.heap.size w y) => receive29 S b y hi SG.out.z (HL.out.below hb))
 rw [SG.out.rI, SG.out.rE] at HR
 have HST := hid (fun b y (hi : IsE y S b) (hb : Below w.heap.size w y) => strip23 S b y hi SG.out.z.v (HL.out.below hb))
 have HWS := hid (fun b y (hi : IsE y S b) => whole21 S b y hi SG.out.z.c)
 rw [SG.out.w] at HWS
 have HSA := hid (fun b c y (hi : IsE y S b) (hi' : IsE y S c) => same40t S b c y hi hi')
 have HEN := hid (fun b y (hi : IsE y S b) => encode37 S b y hi SG.out.z)
 have HGZ := hid (str_smz SG.out.z)
 have HGW := SG.out.wg
 have HGT := hid SG.out.tx
 have HGV := SG.out.vg
 have HTX := hid (show (S.c.tx.toList == [43]) = true by rw [show ([43] : List UInt8) = (⟨#[43]⟩ : ByteArray).toList by rw [Lib.toList_data]]; exact SG.out.t2)
 have HLN := hid (show (10 : Int) < ((encE S).length : Int) from Int.ofNat_lt.2 SG.out.ln)
 generalize strE S = G at HST HGZ HGW HGT HGV
 have HWG := hid (fun b y (hi : IsE y G b) => whole21 G b y hi HGZ.out.c)
 have HVG := hid (fun b y (hi : IsE y G b) (hb : Below w.heap.size w y) => verify30 G b y hi HGZ.out (HL.out.below hb))
 rw [HGW] at HWG HVG
 rw [HGV] at HVG
 generalize encE S = zs at HEN HLN
 clear HGW HGV HGZ SG HL hl
 unfold ClN at HSG HST
 unfold RcP at HR
 unfold SlR at HEN
 go_enter Tryz.func14, Tryz.ntmps14
 go_upto_region 2 with (first
  | (go_at_call 42; (with_reducible refine (HSM.out w).mono ?_); rintro e w1 ⟨b1, rfl, hi, hb⟩; have I1 := hid hi; have B1 := hid hb; clear hi hb)
  | (go_at_call 26; (with_reducible refine (HSG.out b1 w1 I1.out B1.out).mono ?_); rintro e w2 ⟨b2, rfl, hi, hb, hn⟩; have J2 := hid hi; have B2 := hid (B1.out.trans (hb.mono B1.out.size)); clear hi hb hn I1)
  | (refine store_as34 rfl 34 _ _ rfl z29 (ecs S b2) rfl rfl rfl size34 (ecs_one _ _) ?_; intro w3 hx hb; have P3 := hid hx; have J3 := hid (J2.out.below hb); have B3 := hid (B2.out.trans (hb.mono B2.out.size)); clear hx hb J2 HSG)
  | fail)
 go_upto_region 3 with (first
  | (refine load_mid_g (by first | rfl | (simp only [*]; rfl)) 34 _ rfl w2.heap.size 0 rfl (ecs S b2) _ P3.out.range Tryz.underlying34 rfl size34 ?_)
  | (go_at_call 29; (with_reducible refine (HR.out b2 w3 J3.out B3.out).mono ?_); rintro e w4 ⟨b4, rfl, hi, hb⟩; have K4 := hid hi; have J4 := hid (J3.out.below hb); have P4 := hid (P3.out.below hb); have B4 := hid (B3.out.trans (hb.mono B3.out.size)); clear hi hb J3 P3 HR)
  | (refine store_as34 rfl 34 _ _ rfl z29 (ecs S b4) rfl rfl rfl size34 (ecs_one _ _) ?_; intro w5 hx hb; have Q5 := hid hx; have J5 := hid (J4.out.below hb); have P5 := hid (P4.out.below hb); have K5 := hid (K4.out.below hb); have B5 := hid (B4.out.trans (hb.mono B4.out.size)); clear hx hb J4 P4 K4)
  | fail)
 go_upto_region 4 with (first
  | (refine load_mid_g (by first | rfl | (simp only [*]; rfl)) 34 _ rfl w2.heap.size 0 rfl (ecs S b2) _ P5.out.range Tryz.underlying34 rfl size34 ?_)
  | (go_at_call 23; (with_reducible refine (HST.out b2 w5 J5.out B5.out).mono ?_); rintro e w6 ⟨b6, rfl, hi, hb, hn⟩; have G6 := hid hi; have J6 := hid (J5.out.below hb); have P6 := hid (P5.out.below hb); have K6 := hid (K5.out.below hb); have Q6 := hid (Q5.out.below hb); have B6 := hid (B5.out.trans (hb.mono B5.out.size)); clear hi hb hn J5 P5 K5 Q5 HST)
  | (refine store_as34 rfl 34 _ _ rfl z29 (ecs G b6) rfl rfl rfl size34 (ecs_one _ _) ?_; intro w7 hx hb; have R7 := hid hx; have J7 := hid (J6.out.below hb); have P7 := hid (P6.out.below hb); have K7 := hid (K6.out.below hb); have Q7 := hid (Q6.out.below hb); have G7 := hid (G6.out.below hb); have B7 := hid (B6.out.trans (hb.mono B6.out.size)); clear hx hb J6 P6 K6 Q6 G6)
  | fail)
 go_wp2_with (first
  | (go_at_call 42; (with_reducible refine (HSM.out w7).mono ?_); rintro e w8 ⟨b8, rfl, hi, hb⟩; have I8 := hid hi; have J8 := hid (J7.out.below hb); have P8 := hid (P7.out.below hb); have K8 := hid (K7.out.below hb); have Q8 := hid (Q7.out.below hb); have G8 := hid (G7.out.below hb); have R8 := hid (R7.out.below hb); have B8 := hid (B7.out.trans (hb.mono B7.out.size)); clear hi hb J7 P7 K7 Q7 G7 R7)
  | (go_at_call 15; (with_reducible refine (HCK.out b8 w8 I8.out B8.out).mono ?_); rintro e w9 ⟨rfl, hb⟩; have J9 := hid (J8.out.below hb); have P9 := hid (P8.out.below hb); have K9 := hid (K8.out.below hb); have Q9 := hid (Q8.out.below hb); have G9 := hid (G8.out.below hb); have R9 := hid (R8.out.below hb); have B9 := hid (B8.out.trans (hb.mono B8.out.size)); clear hb J8 P8 K8 Q8 G8 R8 I8 HCK HSM)
  | (refine load_mid_g (by first | rfl | (simp only [*]; rfl)) 34 _ rfl w2.heap.size 0 rfl (ecs S b2) _ P9.out.range Tryz.underlying34 rfl size34 ?_)
  | (go_at_call 21; (with_reducible refine (HWS.out b2 w9 J9.out).mono ?_); rintro e w10 ⟨rfl, hb⟩; have J10 := hid (J9.out.below hb); have P10 := hid (P9.out.below hb); have K10 := hid (K9.out.below hb); have Q10 := hid (Q9.out.below hb); have G10 := hid (G9.out.below hb); have R10 := hid (R9.out.below hb); have B10 := hid (B9.out.trans (hb.mono B9.out.size)); clear hb J9 P9 K9 Q9 G9 R9)
  | (refine load_mid_g (by first | rfl | (simp only [*]; rfl)) 34 _ rfl w6.heap.size 0 rfl (ecs G b6) _ R10.out.range Tryz.underlying34 rfl size34 ?_)
  | (go_at_call 21; (with_reducible refine (HWG.out b6 w10 G10.out).mono ?_); rintro e w11 ⟨rfl, hb⟩; have J11 := hid (J10.out.below hb); have P11 := hid (P10.out.below hb); have K11 := hid (K10.out.below hb); have Q11 := hid (Q10.out.below hb); have G11 := hid (G10.out.below hb); have R11 := hid (R10.out.below hb); have B11 := hid (B10.out.trans (hb.mono B10.out.size)); have t4 := R11.out.cell (i := 10) rfl; have t2 := Q11.out.cell (i := 10) rfl; have tx := HGT.out; have ty := HTX.out; clear hb J10 P10 K10 Q10 G10 R10)
  | (refine load_mid_g (by first | rfl | (simp only [*]; rfl)) 34 _ rfl w2.heap.size 0 rfl (ecs S b2) _ P11.out.range Tryz.underlying34 rfl size34 ?_)
  | (refine load_mid_g (by first | rfl | (simp only [*]; rfl)) 34 _ rfl w4.heap.size 0 rfl (ecs S b4) _ Q11.out.range Tryz.underlying34 rfl size34 ?_)
  | (go_at_call 40; (with_reducible refine (HSA.out b2 b4 w11 J11.out K11.out).mono ?_); rintro e w12 ⟨rfl, hb⟩; have J12 := hid (J11.out.below hb); have P12 := hid (P11.out.below hb); have K12 := hid (K11.out.below hb); have Q12 := hid (Q11.out.below hb); have G12 := hid (G11.out.below hb); have R12 := hid (R11.out.below hb); have B12 := hid (B11.out.trans (hb.mono B11.out.size)); clear hb J11 P11 K11 Q11 G11 R11 t4 t2)
  | (refine load_mid_g (by first | rfl | (simp only [*]; rfl)) 34 _ rfl w6.heap.size 0 rfl (ecs G b6) _ R12.out.range Tryz.underlying34 rfl size34 ?_)
  | (go_at_call 30; (with_reducible refine (HVG.out b6 w12 G12.out B12.out).mono ?_); rintro e w13 ⟨rfl, hb⟩; have J13 := hid (J12.out.below hb); have P13 := hid (P12.out.below hb); have K13 := hid (K12.out.below hb); have Q13 := hid (Q12.out.below hb); have G13 := hid (G12.out.below hb); have R13 := hid (R12.out.below hb); have B13 := hid (B12.out.trans (hb.mono B12.out.size)); clear hb J12 P12 K12 Q12 G12 R12)
  | (refine load_mid_g (by first | rfl | (simp only [*]; rfl)) 34 _ rfl w2.heap.size 0 rfl (ecs S b2) _ P13.out.range Tryz.underlying34 rfl size34 ?_)
  | (go_at_call 37; (with_reducible refine (HEN.out b2 w13 J13.out).mono ?_); rintro e w14 ⟨A, c, rfl, hsl, hb⟩; have B14 := hid (B13.out.trans (hb.mono B13.out.size)); have ln := HLN.out; clear hb hsl)
  | fail)
 go_ret
 exact ⟨rfl, B14.out⟩
end Go.Proofs.YtablocpcgknmaaaGreatDoor
