/- EventTampers: its walk. No condition. -/
import Derived.Test.YtablocpcgknmaaaGreatDoorQPh
import Derived.Test.YtablocpcgknmaaaGreatDoorQL5
import Derived.Test.YtablocpcgknmaaaGreatDoorQV19
import Derived.Test.YtablocpcgknmaaaGreatDoorQV20
import Derived.Test.YtablocpcgknmaaaGreatDoorQPv
namespace Go.Proofs.YtablocpcgknmaaaGreatDoor
open Go Go.RowKit
set_option linter.unusedVariables false
set_option linter.unusedSimpArgs false
set_option maxRecDepth 100000

theorem size49 : (Tryz.prog.info? 49).map (·.size) = some 2 := by kernel_rfl
set_option maxHeartbeats 64000000 in
theorem tampers_walk (E : Ew) (a : Aw) (fd by' : Int) (w : World) (h : IsE w E a) (hf : i64B fd) (hby : i64B by') (hl : Lt w) : Calls Tryz.prog 8 #[.agg (ecs E a).toArray, .agg #[.int .i64 fd, .int .i64 by']] w fun e w' => e = .returned (.bool true) ∧ Below w.heap.size w w' := by
 have BA := Lib.hid (((Below.refl w.heap.size w).alloc (Nat.le_refl _) (.cells (ecs E a).toArray 34)).alloc (by simp) (.cells #[.int .i64 fd, .int .i64 by'] 49))
 have X0 := Lib.hid ((blk_new w (ecs E a) 34).alloc (.cells #[.int .i64 fd, .int .i64 by'] 49))
 have Y0 := Lib.hid (blk_new2 w (.cells (ecs E a).toArray 34) [.int .i64 fd, .int .i64 by'] 49)
 have HF := Lib.hid (fun y (hb : Below w.heap.size w y) => small13x E a y (h.below hb))
 have HV := Lib.hid (fun y (hz : SmZ E) (hb : Below w.heap.size w y) => verify30 E a y (h.below hb) hz (hl.below hb))
 have HC := Lib.hid (fun y (hz : SmX E) (hb : Below w.heap.size w y) => changed33 E a fd by' y (h.below hb) hz hby)
 have HJ := Lib.hid (fun y (hz : SmZ E) (hb : Below w.heap.size w y) => idOf19 E a y (h.below hb) hz (hl.below hb))
 have HE := Lib.hid h
 have HL := Lib.hid hl
 unfold ChP at HC
 obtain ⟨v, hv⟩ : ∃ v, verI E (whoB E) = v := ⟨_, rfl⟩
 simp only [hv] at HV
 have HVD := Lib.hid hv
 generalize hW0 : (w.alloc (.cells (ecs E a).toArray 34)).alloc (.cells #[.int .i64 fd, .int .i64 by'] 49) = W0 at BA X0 Y0
 clear h hf hby hl hv
 dsimp only [ecs] at hW0 ⊢
 go_enter Tryz.func8, Tryz.ntmps8
 go_upto_region 4 with (first
  | (refine load_mid_g (by first | rfl | (simp only [*]; rfl)) 34 _ rfl w.heap.size 0 rfl (ecs E a) _ X0.out.range Tryz.underlying34 rfl size34 ?_)
  | (go_at_call 13; (with_reducible refine (HF.out _ BA.out).mono ?_); rintro e w1 ⟨qq, rfl, hq, hb⟩; have B1 := Lib.hid (BA.out.trans (hb.mono BA.out.size)); have X1 := Lib.hid (X0.out.below hb); have Y1 := Lib.hid (Y0.out.below hb); have Q1 := Lib.hid (show Qz qq (SmX E) from hq); clear hb hq HF X0 Y0; cases qq)
  | (refine load_mid_g (by first | rfl | (simp only [*]; rfl)) 34 _ rfl w.heap.size 0 rfl (ecs E a) _ X1.out.range Tryz.underlying34 rfl size34 ?_)
  | (go_at_call 30; (with_reducible refine (HV.out w1 Q1.out.yes.z B1.out).mono ?_); rintro e w2 ⟨rfl, hb⟩; have B2 := Lib.hid (B1.out.trans (hb.mono B1.out.size)); have X2 := Lib.hid (X1.out.below hb); have Y2 := Lib.hid (Y1.out.below hb); clear hb HV X1 Y1; rcases (Bool.eq_false_or_eq_true (v != 0)) with s0 | s0)
  | (refine load_mid_g (by first | rfl | (simp only [*]; rfl)) 34 _ rfl w.heap.size 0 rfl (ecs E a) _ X2.out.range Tryz.underlying34 rfl size34 ?_)
  | (refine load_mid_g (by first | rfl | (simp only [*]; rfl)) 49 _ rfl (w.heap.size + 1) 0 rfl [.int .i64 fd, .int .i64 by'] _ Y2.out.range Tryz.underlying49 rfl size49 ?_)
  | (go_at_call 33; (with_reducible refine (HC.out w2 Q1.out.yes B2.out).mono ?_); rintro e w3 ⟨F, b, rfl, hi, hz, hid, hb⟩; have F3 := Lib.hid hi; have Z3 := Lib.hid hz; have D3 := Lib.hid hid; have B3 := Lib.hid (B2.out.trans (hb.mono B2.out.size)); have X3 := Lib.hid (X2.out.below hb); clear hb hi hz hid HC Y2)
  | (refine store_as34 rfl 34 _ _ rfl z29 (ecs F b) rfl rfl rfl size34 (ecs_one _ _) ?_; intro w4 hx hb; have P4 := Lib.hid hx; have F4 := Lib.hid (F3.out.below hb); have B4 := Lib.hid (B3.out.trans (hb.mono B3.out.size)); have X4 := Lib.hid (X3.out.below hb); clear hx hb)
  | (go_at_call 14; (with_reducible refine (lives14 _ (HL.out.below B2.out)).mono ?_); rintro e w9 ⟨rfl, hb⟩; have B9 := Lib.hid (B2.out.trans (hb.mono B2.out.size)); clear hb)
  | (go_at_call 14; (with_reducible refine (lives14 _ (HL.out.below B1.out)).mono ?_); rintro e w9 ⟨rfl, hb⟩; have B9 := Lib.hid (B1.out.trans (hb.mono B1.out.size)); clear hb)
  | fail)
 ·go_ret
  exact ⟨rfl, B9.out⟩
 ·go_ret
  exact ⟨rfl, B9.out⟩
 ·have HB := Lib.hid (fun y (hb : Below w4.heap.size w4 y) => B4.out.trans (hb.mono B4.out.size))
  have HS := Lib.hid (fun y (hb : Below w4.heap.size w4 y) => rsame24 E F a b y (HE.out.below (HB.out y hb)) (F4.out.below hb))
  have HI1 := Lib.hid (fun y (hb : Below w4.heap.size w4 y) => idOf19 F b y (F4.out.below hb) Z3.out (HL.out.below (HB.out y hb)))
  have HI2 := Lib.hid (fun y (hb : Below w4.heap.size w4 y) => HJ.out y Q1.out.yes.z (HB.out y hb))
  have HR := Lib.hid (fun y (hi : IsE y F b) (hb : Below w.heap.size w y) => receive29 F b y hi Z3.out (HL.out.below hb))
  have HV2 := Lib.hid (fun y (hi : IsE y F b) (hb : Below w.heap.size w y) => verify30 F b y hi Z3.out (HL.out.below hb))
  have HS0 := Lib.hid (fun b6 y (hi : IsE y e0 b6) => (show Calls Tryz.prog 24 #[.agg (ecs e0 b6).toArray, .agg z29.toArray] y _ from rsame24t e0 b6 aw0 y hi (e0_is y)))
  have s0b := s0
  have HX := Lib.hid (fun (s0b : (v != 0) = false) (hp : (idE F == idE E) = false) => tm_facts (E := E) (F := F) (by rw [HVD.out]; simpa [bne] using s0b) D3.out hp)
  unfold RcP at HR
  generalize sameE E F = s at HS
  generalize idE F = p at HI1 HX
  generalize idE E = q at HI2 HX
  clear HB HVD HJ X3 F3 B3 X2 B2 B1 HE Q1 D3
  refine wp_region_held_drew (S := (fun y => Below w4.heap.size w4 y)) (by kernel_rfl) ((Below.refl w4.heap.size w4).drew) (fun hH0 => ?_)
  generalize hy0 : World.drew _ = y0 at hH0 ⊢
  have RB0 : Hid (Below w4.heap.size w4 y0) := Lib.hid hH0
  clear hy0
  refine mvY 0 (v := .agg (ecs E a).toArray) rfl (yieldsIf_load_mid (by first | rfl | (simp only [*]; rfl)) 34 _ rfl w.heap.size 0 rfl (ecs E a) _ (fun w0 hw0 => (X4.out.below hw0).range) Tryz.underlying34 rfl size34) ?_
  try simp only [Act.put, lsA, ls0, ls1]
  refine mvY 1 (v := .agg (ecs F b).toArray) rfl (yieldsIf_load_mid (by first | rfl | (simp only [*]; rfl)) 34 _ rfl w3.heap.size 0 rfl (ecs F b) _ (fun w0 hw0 => (P4.out.below hw0).range) Tryz.underlying34 rfl size34) ?_
  try simp only [Act.put, lsA, ls0, ls1]
  refine mvR 2 rfl (fun KK hKK => ?_)
  go_simp
  (with_reducible refine (HS.out _ RB0.out).mono ?_)
  rintro e0 y1 ⟨rfl, hb⟩
  have RB1 := Lib.hid (RB0.out.trans (hb.mono RB0.out.size))
  clear hb
  refine hKK.out _ _ (RB1.out) (fun hH1 => ?_)
  clear hKK KK
  try simp only [Act.put, lsA, ls0, ls1]
  cases s
  ·refine mvA 3 (v := ?hv1) rfl ?hy1 ?hr1
   case hy1 => (intro w hSw; (try dsimp only at hSw); go_simp; (try with_reducible rfl))
   try simp only [Act.put, lsA, ls0, ls1]
   refine mvY 4 (v := .agg (ecs F b).toArray) rfl (yieldsIf_load_mid (by first | rfl | (simp only [*]; rfl)) 34 _ rfl w3.heap.size 0 rfl (ecs F b) _ (fun w0 hw0 => (P4.out.below hw0).range) Tryz.underlying34 rfl size34) ?_
   try simp only [Act.put, lsA, ls0, ls1]
   refine mvY 6 (v := .agg (ecs E a).toArray) rfl (yieldsIf_load_mid (by first | rfl | (simp only [*]; rfl)) 34 _ rfl w.heap.size 0 rfl (ecs E a) _ (fun w0 hw0 => (X4.out.below hw0).range) Tryz.underlying34 rfl size34) ?_
   try simp only [Act.put, lsA, ls0, ls1]
   refine mvR 5 rfl (fun KK hKK => ?_)
   go_simp
   (with_reducible refine (HI1.out _ RB1.out).mono ?_)
   rintro e0 y2 ⟨rfl, hb⟩
   have RB2 := Lib.hid (RB1.out.trans (hb.mono RB1.out.size))
   clear hb
   refine hKK.out _ _ (RB2.out) (fun hH2 => ?_)
   clear hKK KK
   try simp only [Act.put, lsA, ls0, ls1]
   refine mvR 7 rfl (fun KK hKK => ?_)
   go_simp
   (with_reducible refine (HI2.out _ RB2.out).mono ?_)
   rintro e0 y3 ⟨rfl, hb⟩
   have RB3 := Lib.hid (RB2.out.trans (hb.mono RB2.out.size))
   clear hb
   refine hKK.out _ _ (RB3.out) (fun hH3 => ?_)
   clear hKK KK
   try simp only [Act.put, lsA, ls0, ls1]
   rcases (Bool.eq_false_or_eq_true (p == q)) with hp | hp
   ·refine mvA 8 (v := ?hv2) rfl ?hy2 ?hr2
    case hy2 => (intro w hSw; (try dsimp only at hSw); go_simp; (try with_reducible rfl))
    try simp only [Act.put, lsA, ls0, ls1]
    refine mvA 9 (v := ?hv3) rfl ?hy3 ?hr3
    case hy3 => (intro w hSw; (try dsimp only at hSw); go_simp; (try with_reducible rfl))
    try simp only [Act.put, lsA, ls0, ls1]
    refine wpAnyH_done (by kernel_rfl) ?_ _
    have B5 := Lib.hid (B4.out.trans (RB3.out.mono B4.out.size))
    go_wp2_with (first
     | (go_at_call 14; (with_reducible refine (lives14 _ (HL.out.below B5.out)).mono ?_); rintro e w9 ⟨rfl, hb⟩; have B9 := Lib.hid (B5.out.trans (hb.mono B5.out.size)); clear hb)
     | fail)
    go_ret
    exact ⟨rfl, B9.out⟩
   ·refine mvA 8 (v := ?hv4) rfl ?hy4 ?hr4
    case hy4 => (intro w hSw; (try dsimp only at hSw); go_simp; (try with_reducible rfl))
    try simp only [Act.put, lsA, ls0, ls1]
    refine mvA 9 (v := ?hv5) rfl ?hy5 ?hr5
    case hy5 => (intro w hSw; (try dsimp only at hSw); go_simp; (try with_reducible rfl))
    try simp only [Act.put, lsA, ls0, ls1]
    refine wpAnyH_done (by kernel_rfl) ?_ _
    have B5 := Lib.hid (B4.out.trans (RB3.out.mono B4.out.size))
    have P5 := Lib.hid (P4.out.below RB3.out)
    have F5 := Lib.hid (F4.out.below RB3.out)
    obtain ⟨f1, f2, f3⟩ := HX.out s0b hp
    clear P4 F4 X4 B4 RB0 RB1 RB2 RB3 HX HS HI1 HI2
    generalize y3 = w5 at B5 P5 F5 ⊢
    rw [f3] at HR
    clear f3
    generalize rcvI F = r at HR f2
    generalize verI F (whoB F) = v2 at HV2 f1
    go_upto_region 7 with (first
     | (refine load_mid_g (by first | rfl | (simp only [*]; rfl)) 34 _ rfl w3.heap.size 0 rfl (ecs F b) _ P5.out.range Tryz.underlying34 rfl size34 ?_)
     | (go_at_call 29; (with_reducible refine (HR.out w5 F5.out B5.out).mono ?_); rintro e w6 ⟨b6, rfl, hi, hb⟩; have R6 := Lib.hid hi; have B6 := Lib.hid (B5.out.trans (hb.mono B5.out.size)); have P6 := Lib.hid (P5.out.below hb); have F6 := Lib.hid (F5.out.below hb); clear hi hb HR)
     | (refine store_as34 rfl 34 _ _ rfl z29 (ecs e0 b6) rfl rfl rfl size34 (ecs_one _ _) ?_; intro w7 hx hb; have G7 := Lib.hid hx; have R7 := Lib.hid (R6.out.below hb); have B7 := Lib.hid (B6.out.trans (hb.mono B6.out.size)); have P7 := Lib.hid (P6.out.below hb); have F7 := Lib.hid (F6.out.below hb); clear hx hb)
     | fail)
    clear P6 F6 R6 B6 P5 F5 B5
    go_wp2_with (first
     | (refine load_mid_g (by first | rfl | (simp only [*]; rfl)) 34 _ rfl w3.heap.size 0 rfl (ecs F b) _ P7.out.range Tryz.underlying34 rfl size34 ?_)
     | (go_at_call 30; (with_reducible refine (HV2.out w7 F7.out B7.out).mono ?_); rintro e w8 ⟨rfl, hb⟩; have B8 := Lib.hid (B7.out.trans (hb.mono B7.out.size)); have G8 := Lib.hid (G7.out.below hb); have R8 := Lib.hid (R7.out.below hb); clear hb HV2)
     | (refine load_mid_g (by first | rfl | (simp only [*]; rfl)) 34 _ rfl w6.heap.size 0 rfl (ecs e0 b6) _ G8.out.range Tryz.underlying34 rfl size34 ?_)
     | (go_at_call 24; (with_reducible refine (HS0.out b6 w8 R8.out).mono ?_); rintro e w10 ⟨rfl, hb⟩; have B10 := Lib.hid (B8.out.trans (hb.mono B8.out.size)); clear hb)
     | (go_at_call 14; (with_reducible refine (lives14 _ (HL.out.below B10.out)).mono ?_); rintro e w9 ⟨rfl, hb⟩; have B9 := Lib.hid (B10.out.trans (hb.mono B10.out.size)); clear hb)
     | fail)
    go_ret
    exact ⟨rfl, B9.out⟩
  ·refine mvA 3 (v := ?hv6) rfl ?hy6 ?hr6
   case hy6 => (intro w hSw; (try dsimp only at hSw); go_simp; (try with_reducible rfl))
   try simp only [Act.put, lsA, ls0, ls1]
   refine mvU 4 rfl ?_
   try simp only [Act.put, lsA, ls0, ls1]
   refine mvU 6 rfl ?_
   try simp only [Act.put, lsA, ls0, ls1]
   refine mvR 5 rfl (fun KK hKK => ?_)
   go_simp
   refine hKK.out _ _ (hH1) (fun hH2 => ?_)
   clear hKK KK
   try simp only [Act.put, lsA, ls0, ls1]
   refine mvR 7 rfl (fun KK hKK => ?_)
   go_simp
   refine hKK.out _ _ (hH2) (fun hH3 => ?_)
   clear hKK KK
   try simp only [Act.put, lsA, ls0, ls1]
   refine mvU 8 rfl ?_
   try simp only [Act.put, lsA, ls0, ls1]
   refine mvA 9 (v := ?hv7) rfl ?hy7 ?hr7
   case hy7 => (intro w hSw; (try dsimp only at hSw); go_simp; (try with_reducible rfl))
   try simp only [Act.put, lsA, ls0, ls1]
   refine wpAnyH_done (by kernel_rfl) ?_ _
   have B5 := Lib.hid (B4.out.trans (RB1.out.mono B4.out.size))
   go_wp2_with (first
    | (go_at_call 14; (with_reducible refine (lives14 _ (HL.out.below B5.out)).mono ?_); rintro e w9 ⟨rfl, hb⟩; have B9 := Lib.hid (B5.out.trans (hb.mono B5.out.size)); clear hb)
    | fail)
   go_ret
   exact ⟨rfl, B9.out⟩
end Go.Proofs.YtablocpcgknmaaaGreatDoor
