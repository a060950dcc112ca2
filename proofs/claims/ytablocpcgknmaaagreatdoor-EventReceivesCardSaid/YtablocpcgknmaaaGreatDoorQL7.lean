/- EventReceives: its walk. No condition. -/
import Derived.Test.YtablocpcgknmaaaGreatDoorQPh
import Derived.Test.YtablocpcgknmaaaGreatDoorQL5
import Derived.Test.YtablocpcgknmaaaGreatDoorQV15R
namespace Go.Proofs.YtablocpcgknmaaaGreatDoor
open Go.Lib (hid)
open Go Go.RowKit
set_option linter.unusedVariables false
set_option linter.unusedSimpArgs false
set_option maxRecDepth 100000

set_option maxHeartbeats 32000000 in
theorem receives_walk (E : Ew) (a : Aw) (w : World) (h : IsE w E a) (hl : Lt w) : Calls Tryz.prog 7 #[.agg (ecs E a).toArray] w fun e w' => e = .returned (.bool true) ∧ Below w.heap.size w w' := by
 have BA := hid ((Below.refl w.heap.size w).alloc (Nat.le_refl _) (.cells #[.int .i64 E.id, .string E.rm, .string E.sd, .int .i64 E.kd, .bool E.st, .string E.ky, .int .i64 E.tm, .int .i64 E.dp, .slice a.pA E.pv.length a.pC, .slice a.qA E.au.length a.qC, .string E.c.tx, .int .i64 E.c.n, .int .i64 E.c.tg, .bool E.c.th, .string E.c.via, .slice a.c.aA E.c.al.length a.c.aC, .slice a.c.dA E.c.dn.length a.c.dC, .slice a.c.uA E.c.us.length a.c.uC, .slice a.c.kA E.c.ks.length a.c.kC, .int .i64 E.c.d, .int .i64 E.c.x3, .int .i64 E.c.x4, .int .i64 E.c.x5, .int .i64 E.c.x6, .int .i64 E.c.x7, .int .i64 E.c.x8, .int .i64 E.hs, .string E.sv, .int .i64 E.sm] 34))
 have XA := hid (blk_new w [.int .i64 E.id, .string E.rm, .string E.sd, .int .i64 E.kd, .bool E.st, .string E.ky, .int .i64 E.tm, .int .i64 E.dp, .slice a.pA E.pv.length a.pC, .slice a.qA E.au.length a.qC, .string E.c.tx, .int .i64 E.c.n, .int .i64 E.c.tg, .bool E.c.th, .string E.c.via, .slice a.c.aA E.c.al.length a.c.aC, .slice a.c.dA E.c.dn.length a.c.dC, .slice a.c.uA E.c.us.length a.c.uC, .slice a.c.kA E.c.ks.length a.c.kC, .int .i64 E.c.d, .int .i64 E.c.x3, .int .i64 E.c.x4, .int .i64 E.c.x5, .int .i64 E.c.x6, .int .i64 E.c.x7, .int .i64 E.c.x8, .int .i64 E.hs, .string E.sv, .int .i64 E.sm] 34)
 have HF := hid (small13 E a _ (h.below BA.out))
 have HH := hid h
 have HL := hid hl
 clear h hl
 dsimp only [ecs] at HF
 have HRC := hid (fun y (hz : SmZ E) (hb : Below w.heap.size w y) => receive29 E a y (HH.out.below hb) hz (HL.out.below hb))
 have HRR := hid (fun y (hz : SmZ E) (hb : Below w.heap.size w y) => rreceive31 E a y (HH.out.below hb) hz)
 have HV3 := hid (fun y (hz : SmZ E) (hb : Below w.heap.size w y) => verify30 E a y (HH.out.below hb) hz (HL.out.below hb))
 have HV4 := hid (fun y (hz : SmZ E) (hb : Below w.heap.size w y) => rverify32 E a y (HH.out.below hb) hz)
 dsimp only [ecs] at HRC HRR HV3 HV4
 unfold RcP at HRC HRR
 generalize rcvE E = F at HRC HRR
 generalize rcvI E = r at HRC HRR
 generalize verI E (whoB E) = v at HV3 HV4
 have e0 : (r == r) = true := beq_self_eq_true r
 have e1 : (v == v) = true := beq_self_eq_true v
 show Calls Tryz.prog 7 #[.agg #[.int .i64 E.id, .string E.rm, .string E.sd, .int .i64 E.kd, .bool E.st, .string E.ky, .int .i64 E.tm, .int .i64 E.dp, .slice a.pA E.pv.length a.pC, .slice a.qA E.au.length a.qC, .string E.c.tx, .int .i64 E.c.n, .int .i64 E.c.tg, .bool E.c.th, .string E.c.via, .slice a.c.aA E.c.al.length a.c.aC, .slice a.c.dA E.c.dn.length a.c.dC, .slice a.c.uA E.c.us.length a.c.uC, .slice a.c.kA E.c.ks.length a.c.kC, .int .i64 E.c.d, .int .i64 E.c.x3, .int .i64 E.c.x4, .int .i64 E.c.x5, .int .i64 E.c.x6, .int .i64 E.c.x7, .int .i64 E.c.x8, .int .i64 E.hs, .string E.sv, .int .i64 E.sm]] w _
 go_enter Tryz.func7, Tryz.ntmps7
 go_upto_region 4 with (first
  | (refine load_mid_g (by first | rfl | (simp only [*]; rfl)) 34 _ rfl w.heap.size 0 rfl (ecs E a) _ XA.out.range Tryz.underlying34 rfl size34 ?_)
  | (refine load_mid_g (by first | rfl | (simp only [*]; rfl)) 34 _ rfl w.heap.size 0 rfl (ecs E a) _ X1.out.range Tryz.underlying34 rfl size34 ?_)
  | (go_at_call 13; (with_reducible refine HF.out.mono ?_); rintro e w1 ⟨q, rfl, hq, hb⟩; have B1 := hid (BA.out.trans (hb.mono BA.out.size)); have X1 := hid (XA.out.below hb); have Q1 := hid (show Qz q (SmZ E) from hq); clear hq hb; cases q)
  | (go_at_call 14; (with_reducible refine (lives14 w1 (HL.out.below B1.out)).mono ?_); rintro e w2 ⟨rfl, hb⟩; have B2 := hid (B1.out.trans (hb.mono B1.out.size)); clear hb)
  | (go_at_call 29; (with_reducible refine (HRC.out w1 (Q1.out.yes) B1.out).mono ?_); rintro e w2 ⟨b2, rfl, hi, hb⟩; have F2 := hid hi; have B2 := hid (B1.out.trans (hb.mono B1.out.size)); have X2 := hid (X1.out.below hb); clear hi hb)
  | (refine store_as34 rfl 34 _ _ rfl z29 (ecs F b2) rfl rfl rfl size34 (ecs_one _ _) ?_; intro w3 hx hb; have P3 := hid hx; have F3 := hid (F2.out.below hb); have B3 := hid (B2.out.trans (hb.mono B2.out.size)); have X3 := hid (X2.out.below hb); clear hx hb)
  | fail)
 ·go_ret
  exact ⟨rfl, B2.out⟩
 ·have HZ := hid (Q1.out.yes)
  clear XA X1 X2 F2
  go_upto_region 5 with (first
   | (refine load_mid_g (by first | rfl | (simp only [*]; rfl)) 34 _ rfl w.heap.size 0 rfl (ecs E a) _ X3.out.range Tryz.underlying34 rfl size34 ?_)
   | (go_at_call 31; (with_reducible refine (HRR.out w3 HZ.out B3.out).mono ?_); rintro e w4 ⟨b4, rfl, hi, hb⟩; have K4 := hid hi; have B4 := hid (B3.out.trans (hb.mono B3.out.size)); have X4 := hid (X3.out.below hb); have P4 := hid (P3.out.below hb); have F4 := hid (F3.out.below hb); clear hi hb)
   | (refine store_as34 rfl 34 _ _ rfl z29 (ecs F b4) rfl rfl rfl size34 (ecs_one _ _) ?_; intro w5 hx hb; have Q5 := hid hx; have K5 := hid (K4.out.below hb); have B5 := hid (B4.out.trans (hb.mono B4.out.size)); have X5 := hid (X4.out.below hb); have P5 := hid (P4.out.below hb); have F5 := hid (F4.out.below hb); clear hx hb)
   | fail)
  have HV1 := hid (fun y (hb : Below w5.heap.size w5 y) => HV3.out y HZ.out (B5.out.trans (hb.mono B5.out.size)))
  have HV2 := hid (fun y (hb : Below w5.heap.size w5 y) => HV4.out y HZ.out (B5.out.trans (hb.mono B5.out.size)))
  have HSA := hid (fun y (hb : Below w5.heap.size w5 y) => rsame24t F b2 b4 y (F5.out.below hb) (K5.out.below hb))
  have HT := hid (HL.out.below B5.out)
  clear HF BA HH HL Q1 HRC HRR HV3 HV4 X3 X4 B1 B2 B3 B4 F3 F4 F5 K4 K5 P3 P4 HZ
  refine wp_region_held_drew (S := (fun y => Below w5.heap.size w5 y)) (by kernel_rfl) ((Below.refl w5.heap.size w5).drew) (fun hH0 => ?_)
  generalize hy0 : World.drew _ = y0 at hH0 ⊢
  have RB0 : Hid (Below w5.heap.size w5 y0) := hid hH0
  clear hy0
  refine mvY 0 (v := .agg (ecs E a).toArray) rfl (yieldsIf_load_mid (by first | rfl | (simp only [*]; rfl)) 34 _ rfl w.heap.size 0 rfl (ecs E a) _ (fun w0 hw0 => (X5.out.below hw0).range) Tryz.underlying34 rfl size34) ?_
  try simp only [Act.put, lsA, ls0, ls1]
  refine mvY 2 (v := .agg (ecs E a).toArray) rfl (yieldsIf_load_mid (by first | rfl | (simp only [*]; rfl)) 34 _ rfl w.heap.size 0 rfl (ecs E a) _ (fun w0 hw0 => (X5.out.below hw0).range) Tryz.underlying34 rfl size34) ?_
  try simp only [Act.put, lsA, ls0, ls1]
  refine mvR 1 rfl (fun KK hKK => ?_)
  go_simp
  (with_reducible refine (HV1.out _ RB0.out).mono ?_)
  rintro e0 y1 ⟨rfl, hb⟩
  have RB1 := hid (RB0.out.trans (hb.mono RB0.out.size))
  clear hb
  refine hKK.out _ _ (RB1.out) (fun hH1 => ?_)
  clear hKK KK
  try simp only [Act.put, lsA, ls0, ls1]
  refine mvR 3 rfl (fun KK hKK => ?_)
  go_simp
  (with_reducible refine (HV2.out _ RB1.out).mono ?_)
  rintro e0 y2 ⟨rfl, hb⟩
  have RB2 := hid (RB1.out.trans (hb.mono RB1.out.size))
  clear hb
  refine hKK.out _ _ (RB2.out) (fun hH2 => ?_)
  clear hKK KK
  try simp only [Act.put, lsA, ls0, ls1]
  refine mvA 4 (v := ?hv9) rfl ?hy9 ?hr9
  case hy9 => (intro w hSw; (try dsimp only at hSw); go_simp; (try with_reducible rfl))
  try simp only [Act.put, lsA, ls0, ls1]
  refine mvA 5 (v := ?hv10) rfl ?hy10 ?hr10
  case hy10 => (intro w hSw; (try dsimp only at hSw); go_simp; (try with_reducible rfl))
  try simp only [Act.put, lsA, ls0, ls1]
  refine mvA 6 (v := ?hv11) rfl ?hy11 ?hr11
  case hy11 => (intro w hSw; (try dsimp only at hSw); go_simp; (try with_reducible rfl))
  try simp only [Act.put, lsA, ls0, ls1]
  refine mvA 7 (v := ?hv12) rfl ?hy12 ?hr12
  case hy12 => (intro w hSw; (try dsimp only at hSw); go_simp; (try with_reducible rfl))
  try simp only [Act.put, lsA, ls0, ls1]
  refine mvA 8 (v := ?hv13) rfl ?hy13 ?hr13
  case hy13 => (intro w hSw; (try dsimp only at hSw); go_simp; (try with_reducible rfl))
  try simp only [Act.put, lsA, ls0, ls1]
  refine mvA 9 (v := ?hv14) rfl ?hy14 ?hr14
  case hy14 => (intro w hSw; (try dsimp only at hSw); go_simp; (try with_reducible rfl))
  try simp only [Act.put, lsA, ls0, ls1]
  refine mvA 10 (v := ?hv15) rfl ?hy15 ?hr15
  case hy15 => (intro w hSw; (try dsimp only at hSw); go_simp; (try with_reducible rfl))
  try simp only [Act.put, lsA, ls0, ls1]
  refine mvY 11 (v := .agg (ecs F b2).toArray) rfl (yieldsIf_load_mid (by first | rfl | (simp only [*]; rfl)) 34 _ rfl w2.heap.size 0 rfl (ecs F b2) _ (fun w0 hw0 => (P5.out.below hw0).range) Tryz.underlying34 rfl size34) ?_
  try simp only [Act.put, lsA, ls0, ls1]
  refine mvY 12 (v := .agg (ecs F b4).toArray) rfl (yieldsIf_load_mid (by first | rfl | (simp only [*]; rfl)) 34 _ rfl w4.heap.size 0 rfl (ecs F b4) _ (fun w0 hw0 => (Q5.out.below hw0).range) Tryz.underlying34 rfl size34) ?_
  try simp only [Act.put, lsA, ls0, ls1]
  refine mvR 13 rfl (fun KK hKK => ?_)
  go_simp
  (with_reducible refine (HSA.out _ RB2.out).mono ?_)
  rintro e0 y3 ⟨rfl, hb⟩
  have RB3 := hid (RB2.out.trans (hb.mono RB2.out.size))
  clear hb
  refine hKK.out _ _ (RB3.out) (fun hH3 => ?_)
  clear hKK KK
  try simp only [Act.put, lsA, ls0, ls1]
  refine mvA 14 (v := ?hv16) rfl ?hy16 ?hr16
  case hy16 => (intro w hSw; (try dsimp only at hSw); go_simp; (try with_reducible rfl))
  try simp only [Act.put, lsA, ls0, ls1]
  refine mvA 15 (v := ?hv17) rfl ?hy17 ?hr17
  case hy17 => (intro w hSw; (try dsimp only at hSw); go_simp; (try with_reducible rfl))
  try simp only [Act.put, lsA, ls0, ls1]
  refine mvR 16 rfl (fun KK hKK => ?_)
  go_simp
  (with_reducible refine (lives14 _ (HT.out.below RB3.out)).mono ?_)
  rintro e0 y4 ⟨rfl, hb⟩
  have RB4 := hid (RB3.out.trans (hb.mono RB3.out.size))
  clear hb
  refine hKK.out _ _ (RB4.out) (fun hH4 => ?_)
  clear hKK KK
  try simp only [Act.put, lsA, ls0, ls1]
  refine mvA 17 (v := ?hv18) rfl ?hy18 ?hr18
  case hy18 => (intro w hSw; (try dsimp only at hSw); go_simp; (try with_reducible rfl))
  try simp only [Act.put, lsA, ls0, ls1]
  refine mvA 18 (v := ?hv19) rfl ?hy19 ?hr19
  case hy19 => (intro w hSw; (try dsimp only at hSw); go_simp; (try with_reducible rfl))
  try simp only [Act.put, lsA, ls0, ls1]
  refine wpAnyH_done (by kernel_rfl) ?_ _
  go_wp2
  go_ret
  exact ⟨rfl, B5.out.trans (RB4.out.mono B5.out.size)⟩
end Go.Proofs.YtablocpcgknmaaaGreatDoor
