/- EventBytes: its walk. No condition. -/
import Derived.Test.YtablocpcgknmaaaGreatDoorRPh
import Derived.Test.YtablocpcgknmaaaGreatDoorRL5
import Derived.Test.YtablocpcgknmaaaGreatDoorRM5
namespace Go.Proofs.YtablocpcgknmaaaGreatDoor
open Go.Lib (hid)
open Go Go.RowKit
set_option linter.unusedVariables false
set_option linter.unusedSimpArgs false
set_option maxRecDepth 100000

set_option maxHeartbeats 64000000 in
theorem bytes_walk (E : Ew) (a : Aw) (m : Int) (w : World) (h : IsE w E a) (hm : 0 ≤ m ∧ m ≤ 255) (hl : Lt w) : Calls Tryz.prog 10 #[.agg (ecs E a).toArray, .int .u8 m] w fun e w' => e = .returned (.bool true) ∧ Below w.heap.size w w' := by
 have BA := hid ((Below.refl w.heap.size w).alloc (Nat.le_refl _) (.cells (ecs E a).toArray 34))
 have XA := hid (blk_new w (ecs E a) 34)
 have HF := hid (small13 E a _ (h.below BA.out))
 have HH := hid h
 have HL := hid hl
 have HM := hid hm
 generalize hW0 : w.alloc (.cells (ecs E a).toArray 34) = W0 at BA XA HF
 clear h hl hm
 dsimp only [ecs] at hW0 ⊢
 go_enter Tryz.func10, Tryz.ntmps10
 go_upto_region 3 with (first
  | (refine load_mid_g (by first | rfl | (simp only [*]; rfl)) 34 _ rfl w.heap.size 0 rfl (ecs E a) _ XA.out.range Tryz.underlying34 rfl size34 ?_)
  | (go_at_call 13; (with_reducible refine HF.out.mono ?_); rintro e w1 ⟨q, rfl, hq, hb⟩; have B1 := hid (BA.out.trans (hb.mono BA.out.size)); have X1 := hid (XA.out.below hb); have Q1 := hid (show Qz q (SmZ E) from hq); clear hq hb; cases q)
  | (go_at_call 14; (with_reducible refine (lives14 w1 (HL.out.below B1.out)).mono ?_); rintro e w2 ⟨rfl, hb⟩; have B2 := hid (B1.out.trans (hb.mono B1.out.size)); clear hb)
  | fail)
 ·go_ret
  exact ⟨rfl, B2.out⟩
 ·have HZ := hid Q1.out.yes
  have HE := hid (encode37 E a w1 (HH.out.below B1.out) HZ.out)
  have HA := hid (fun y (hb : Below w.heap.size w y) => rencode39 E a y (HH.out.below hb) HZ.out)
  have ZL := hid (encE_bd HH.out HZ.out)
  have ZM := hid (show BZ (encE E ++ [m]) from ⟨fun z hz => by
   rcases List.mem_append.1 hz with q | q
   ·exact ZL.out.1 z q
   ·rw [List.mem_singleton] at q; rw [q]; exact HM.out, by rw [List.length_append]; have := ZL.out.2; show (encE E).length + 1 ≤ 800000; omega⟩)
  have HD0 := hid (fun A c y (hs : Cd.Sl y A (encE E).length c (encE E)) => by
   have q := decode_event HH.out HZ.out [] (by rw [List.append_nil]; exact ⟨ZL.out.1, Nat.le_trans ZL.out.2 (by decide)⟩) A c y (by rw [List.append_nil]; exact hs)
   rw [List.append_nil] at q
   exact q)
  have HD1 := hid (fun n A c y (hn : (encE E ++ [m]).length = n) (hs : Cd.Sl y A n c (encE E ++ [m])) => (show Calls Tryz.prog 38 #[.slice A n c] y (DvG (if [m].length = 0 then some E else none) y) by subst hn; exact decode_event HH.out HZ.out [m] ZM.out A c y hs))
  rw [if_pos (show ([] : List Int).length = 0 from rfl)] at HD0
  rw [if_neg (show ¬ [m].length = 0 by simp)] at HD1
  unfold SlR at HE HA
  unfold DvG at HD0 HD1
  have LN := hid (Nat.le_trans ZL.out.2 (by decide : 640000 ≤ 900000))
  generalize encE E = z1 at HE HA HD0 HD1 LN ZM
  clear HF XA BA Q1 ZL
  go_upto_region 5 with (first
   | (refine load_mid_g (by first | rfl | (simp only [*]; rfl)) 34 _ rfl w.heap.size 0 rfl (ecs E a) _ X1.out.range Tryz.underlying34 rfl size34 ?_)
   | (go_at_call 37; (with_reducible refine HE.out.mono ?_); rintro e w2 ⟨A2, c2, rfl, hs, hb⟩; have S2 := hid hs; have B2 := hid (B1.out.trans (hb.mono B1.out.size)); have X2 := hid (X1.out.below hb); clear hs hb HE)
   | (go_at_call 38; (with_reducible refine (HD0.out A2 c2 w2 S2.out).mono ?_); rintro e w3 ⟨E3, b3, rfl, hi, hb, ho⟩; obtain rfl : E = E3 := (by rcases ho with h | h; exact Option.some.inj h; exact nomatch h.1); have I3 := hid hi; have S3 := hid (S2.out.below hb); have B3 := hid (B2.out.trans (hb.mono B2.out.size)); have X3 := hid (X2.out.below hb); clear hi hb ho HD0 S2 X1 X2)
   | (refine store_as34 rfl 34 _ _ rfl z29 (ecs E b3) rfl rfl rfl size34 (ecs_one _ _) ?_; intro w4 hx hb; have Y4 := hid hx; have I4 := hid (I3.out.below hb); have S4 := hid (S3.out.below hb); have X4 := hid (X3.out.below hb); have B4 := hid (B3.out.trans (hb.mono B3.out.size)); clear hx hb I3 S3 X3)
   | fail)
  have HAL := hid ((Below.refl w4.heap.size w4).alloc (Nat.le_refl _) (.cells #[] 5))
  clear B1 B2 B3
  go_upto_region 6 with (first
   | (at_builtin; (with_reducible refine Cd.app_bytes rfl (.tmp 22) (.tmp 23) ?_ (B := w4.heap.size) _ [] ?_ (Cd.lit_own w4) ?_ A2 z1.length c2 z1 ?_ (S4.out.below HAL.out) (by simp; have := LN.out; omega) ?_); (rfl); (rfl); (simp); (rfl); intro v5 w5 ho hb; rw [List.nil_append] at ho; obtain ⟨A5, c5, rfl⟩ := Cd.own_shape ho; have O5 := hid ho; have H5 := hid (HAL.out.trans hb); clear ho hb)
   | (at_builtin; (with_reducible refine Cd.app_byte rfl (.tmp 24) (.tmp 26) ?_ _ z1 ?_ O5.out H5.out.size m HM.out _ _ ?_ (by have := LN.out; omega) ?_); (rfl); (rfl); (rfl); intro v6 w6 ho hb; obtain ⟨A6, c6, rfl, hs6⟩ := Cd.Own.sl ho ZM.out.1; generalize hn6 : (z1 ++ [m]).length = n6 at hs6 ⊢; have N6 := hid hn6; have S6 := hid hs6; have H6 := hid (H5.out.trans hb); have B6 := hid (B4.out.trans (H6.out.mono B4.out.size)); have Y6 := hid (Y4.out.below H6.out); have I6 := hid (I4.out.below H6.out); have Z6 := hid (S4.out.below H6.out); have X6 := hid (X4.out.below H6.out); clear ho hb hs6 hn6 O5 H5 Y4 I4 S4 X4)
   | (go_at_call 38; (with_reducible refine (HD1.out n6 A6 c6 w6 N6.out S6.out).mono ?_); rintro e w7 ⟨E7, b7, rfl, hi, hb, ho⟩; have B7 := hid (B6.out.trans (hb.mono B6.out.size)); have Y7 := hid (Y6.out.below hb); have I7 := hid (I6.out.below hb); have Z7 := hid (Z6.out.below hb); have X7 := hid (X6.out.below hb); clear hi hb ho HD1 S6)
   | (refine store_as34 rfl 34 _ _ rfl z29 (ecs E7 b7) rfl rfl rfl size34 (ecs_one _ _) ?_; intro w8 hx hb; have B8 := hid (B7.out.trans (hb.mono B7.out.size)); have Y8 := hid (Y7.out.below hb); have I8 := hid (I7.out.below hb); have S8 := hid (Z7.out.below hb); have X8 := hid (X7.out.below hb); clear hx hb)
   | fail)
  have HS1 := hid (fun y (hb : Below w8.heap.size w8 y) => rsame24t E b3 a y (I8.out.below hb) (HH.out.below (B8.out.trans (hb.mono B8.out.size))))
  have HS2 := hid (fun y (hb : Below w8.heap.size w8 y) => same40t E b3 a y (I8.out.below hb) (HH.out.below (B8.out.trans (hb.mono B8.out.size))))
  replace HA := hid (fun y (hb : Below w8.heap.size w8 y) => HA.out y (B8.out.trans (hb.mono B8.out.size)))
  have HT := hid (HL.out.below B8.out)
  obtain ⟨t1, ht1⟩ : ∃ t, strOfNums z1 = t := ⟨_, rfl⟩
  have T1 := hid ht1
  have e0 : (t1.toList == t1.toList) = true := beq_self_eq_true t1.toList
  clear ht1 HH HL HAL B4 B6 B7 Y7 I7 Z7 X7 ZM
  refine wp_region_held_drew (S := (fun y => Below w8.heap.size w8 y)) (by kernel_rfl) ((Below.refl w8.heap.size w8).drew) (fun hH0 => ?_)
  generalize hy0 : World.drew _ = y0 at hH0 ⊢
  have RB0 : Hid (Below w8.heap.size w8 y0) := hid hH0
  clear hy0
  replace S8 := hid (S8.out.below RB0.out)
  refine mvA 0 (v := ?hv1) rfl ?hy1 ?hr1
  case hy1 => (intro w hSw; (try dsimp only at hSw); go_simp; (try with_reducible rfl))
  try simp only [Act.put, lsA, ls0, ls1]
  refine mvY 2 (v := .agg (ecs E a).toArray) rfl (yieldsIf_load_mid (by first | rfl | (simp only [*]; rfl)) 34 _ rfl w.heap.size 0 rfl (ecs E a) _ (fun w0 hw0 => (X8.out.below hw0).range) Tryz.underlying34 rfl size34) ?_
  try simp only [Act.put, lsA, ls0, ls1]
  refine mvT [1, 3] ?_
  refine mvD rfl (fun KK hKK => ?_) ?_
  ·have hcv := Cd.conv_sl S8.out
   rw [T1.out] at hcv
   go_simp
   have RB1 := RB0
   clear hcv S8
   refine hKK.out _ _ (RB1.out) (fun hH1 => ?_)
   clear hKK KK
   try simp only [Act.put, lsA, ls0, ls1]
   refine mvR 3 rfl (fun KK hKK => ?_)
   go_simp
   (with_reducible refine (HA.out _ RB1.out).mono ?_)
   rintro e0 y2 ⟨A9, c9, rfl, hs, hb⟩
   have RB2 := hid (RB1.out.trans (hb.mono RB1.out.size))
   have S9 := hid hs
   clear hs hb
   refine hKK.out _ _ (RB2.out) (fun hH2 => ?_)
   clear hKK KK
   try simp only [Act.put, lsA, ls0, ls1]
   refine mvR 4 rfl (fun KK hKK => ?_)
   have hcv := Cd.conv_sl S9.out
   rw [T1.out] at hcv
   go_simp
   have RB3 := RB2
   clear hcv S9
   refine hKK.out _ _ (RB3.out) (fun hH3 => ?_)
   clear hKK KK
   try simp only [Act.put, lsA, ls0, ls1]
   refine mvA 5 (v := ?hv2) rfl ?hy2 ?hr2
   case hy2 => (intro w hSw; (try dsimp only at hSw); go_simp; (try with_reducible rfl))
   try simp only [Act.put, lsA, ls0, ls1]
   refine mvA 6 (v := ?hv3) rfl ?hy3 ?hr3
   case hy3 => (intro w hSw; (try dsimp only at hSw); go_simp; (try with_reducible rfl))
   try simp only [Act.put, lsA, ls0, ls1]
   refine mvA 7 (v := ?hv4) rfl ?hy4 ?hr4
   case hy4 => (intro w hSw; (try dsimp only at hSw); go_simp; (try with_reducible rfl))
   try simp only [Act.put, lsA, ls0, ls1]
   refine mvA 8 (v := ?hv5) rfl ?hy5 ?hr5
   case hy5 => (intro w hSw; (try dsimp only at hSw); go_simp; (try with_reducible rfl))
   try simp only [Act.put, lsA, ls0, ls1]
   refine mvA 9 (v := ?hv6) rfl ?hy6 ?hr6
   case hy6 => (intro w hSw; (try dsimp only at hSw); go_simp; (try with_reducible rfl))
   try simp only [Act.put, lsA, ls0, ls1]
   refine mvY 10 (v := .agg (ecs E b3).toArray) rfl (yieldsIf_load_mid (by first | rfl | (simp only [*]; rfl)) 34 _ rfl w3.heap.size 0 rfl (ecs E b3) _ (fun w0 hw0 => (Y8.out.below hw0).range) Tryz.underlying34 rfl size34) ?_
   try simp only [Act.put, lsA, ls0, ls1]
   refine mvY 11 (v := .agg (ecs E a).toArray) rfl (yieldsIf_load_mid (by first | rfl | (simp only [*]; rfl)) 34 _ rfl w.heap.size 0 rfl (ecs E a) _ (fun w0 hw0 => (X8.out.below hw0).range) Tryz.underlying34 rfl size34) ?_
   try simp only [Act.put, lsA, ls0, ls1]
   refine mvR 12 rfl (fun KK hKK => ?_)
   go_simp
   (with_reducible refine (HS1.out _ RB3.out).mono ?_)
   rintro e0 y4 ⟨rfl, hb⟩
   have RB4 := hid (RB3.out.trans (hb.mono RB3.out.size))
   clear hb
   refine hKK.out _ _ (RB4.out) (fun hH4 => ?_)
   clear hKK KK
   try simp only [Act.put, lsA, ls0, ls1]
   refine mvA 13 (v := ?hv7) rfl ?hy7 ?hr7
   case hy7 => (intro w hSw; (try dsimp only at hSw); go_simp; (try with_reducible rfl))
   try simp only [Act.put, lsA, ls0, ls1]
   refine mvA 14 (v := ?hv8) rfl ?hy8 ?hr8
   case hy8 => (intro w hSw; (try dsimp only at hSw); go_simp; (try with_reducible rfl))
   try simp only [Act.put, lsA, ls0, ls1]
   refine mvY 15 (v := .agg (ecs E b3).toArray) rfl (yieldsIf_load_mid (by first | rfl | (simp only [*]; rfl)) 34 _ rfl w3.heap.size 0 rfl (ecs E b3) _ (fun w0 hw0 => (Y8.out.below hw0).range) Tryz.underlying34 rfl size34) ?_
   try simp only [Act.put, lsA, ls0, ls1]
   refine mvY 16 (v := .agg (ecs E a).toArray) rfl (yieldsIf_load_mid (by first | rfl | (simp only [*]; rfl)) 34 _ rfl w.heap.size 0 rfl (ecs E a) _ (fun w0 hw0 => (X8.out.below hw0).range) Tryz.underlying34 rfl size34) ?_
   try simp only [Act.put, lsA, ls0, ls1]
   refine mvR 17 rfl (fun KK hKK => ?_)
   go_simp
   (with_reducible refine (HS2.out _ RB4.out).mono ?_)
   rintro e0 y5 ⟨rfl, hb⟩
   have RB5 := hid (RB4.out.trans (hb.mono RB4.out.size))
   clear hb
   refine hKK.out _ _ (RB5.out) (fun hH5 => ?_)
   clear hKK KK
   try simp only [Act.put, lsA, ls0, ls1]
   refine mvA 18 (v := ?hv9) rfl ?hy9 ?hr9
   case hy9 => (intro w hSw; (try dsimp only at hSw); go_simp; (try with_reducible rfl))
   try simp only [Act.put, lsA, ls0, ls1]
   refine mvA 19 (v := ?hv10) rfl ?hy10 ?hr10
   case hy10 => (intro w hSw; (try dsimp only at hSw); go_simp; (try with_reducible rfl))
   try simp only [Act.put, lsA, ls0, ls1]
   refine mvA 20 (v := ?hv11) rfl ?hy11 ?hr11
   case hy11 => (intro w hSw; (try dsimp only at hSw); go_simp; (try with_reducible rfl))
   try simp only [Act.put, lsA, ls0, ls1]
   refine mvA 21 (v := ?hv12) rfl ?hy12 ?hr12
   case hy12 => (intro w hSw; (try dsimp only at hSw); go_simp; (try with_reducible rfl))
   try simp only [Act.put, lsA, ls0, ls1]
   refine mvA 22 (v := ?hv13) rfl ?hy13 ?hr13
   case hy13 => (intro w hSw; (try dsimp only at hSw); go_simp; (try with_reducible rfl))
   try simp only [Act.put, lsA, ls0, ls1]
   refine mvA 23 (v := ?hv14) rfl ?hy14 ?hr14
   case hy14 => (intro w hSw; (try dsimp only at hSw); go_simp; (try with_reducible rfl))
   try simp only [Act.put, lsA, ls0, ls1]
   refine mvR 24 rfl (fun KK hKK => ?_)
   go_simp
   (with_reducible refine (lives14 _ (HT.out.below RB5.out)).mono ?_)
   rintro e0 y6 ⟨rfl, hb⟩
   have RB6 := hid (RB5.out.trans (hb.mono RB5.out.size))
   clear hb
   refine hKK.out _ _ (RB6.out) (fun hH6 => ?_)
   clear hKK KK
   try simp only [Act.put, lsA, ls0, ls1]
   refine mvA 25 (v := ?hv15) rfl ?hy15 ?hr15
   case hy15 => (intro w hSw; (try dsimp only at hSw); go_simp; (try with_reducible rfl))
   try simp only [Act.put, lsA, ls0, ls1]
   refine mvA 26 (v := ?hv16) rfl ?hy16 ?hr16
   case hy16 => (intro w hSw; (try dsimp only at hSw); go_simp; (try with_reducible rfl))
   try simp only [Act.put, lsA, ls0, ls1]
   refine wpAnyH_done (by kernel_rfl) ?_ _
   go_wp2
   go_ret
   exact ⟨rfl, B8.out.trans (RB6.out.mono B8.out.size)⟩
  refine mvD rfl (fun KK hKK => ?_) AllReadyH.nil
  go_simp
  (with_reducible refine (HA.out _ RB0.out).mono ?_)
  rintro e0 y1 ⟨A9, c9, rfl, hs, hb⟩
  have RB1 := hid (RB0.out.trans (hb.mono RB0.out.size))
  have S9 := hid hs
  replace S8 := hid (S8.out.below hb)
  clear hs hb
  refine hKK.out _ _ (RB1.out) (fun hH1 => ?_)
  clear hKK KK
  try simp only [Act.put, lsA, ls0, ls1]
  refine mvT [1, 4] ?_
  refine mvD rfl (fun KK hKK => ?_) ?_
  ·have hcv := Cd.conv_sl S8.out
   rw [T1.out] at hcv
   go_simp
   have RB2 := RB1
   clear hcv S8
   refine hKK.out _ _ (RB2.out) (fun hH2 => ?_)
   clear hKK KK
   try simp only [Act.put, lsA, ls0, ls1]
   refine mvR 4 rfl (fun KK hKK => ?_)
   have hcv := Cd.conv_sl S9.out
   rw [T1.out] at hcv
   go_simp
   have RB3 := RB2
   clear hcv S9
   refine hKK.out _ _ (RB3.out) (fun hH3 => ?_)
   clear hKK KK
   try simp only [Act.put, lsA, ls0, ls1]
   refine mvA 5 (v := ?hv17) rfl ?hy17 ?hr17
   case hy17 => (intro w hSw; (try dsimp only at hSw); go_simp; (try with_reducible rfl))
   try simp only [Act.put, lsA, ls0, ls1]
   refine mvA 6 (v := ?hv18) rfl ?hy18 ?hr18
   case hy18 => (intro w hSw; (try dsimp only at hSw); go_simp; (try with_reducible rfl))
   try simp only [Act.put, lsA, ls0, ls1]
   refine mvA 7 (v := ?hv19) rfl ?hy19 ?hr19
   case hy19 => (intro w hSw; (try dsimp only at hSw); go_simp; (try with_reducible rfl))
   try simp only [Act.put, lsA, ls0, ls1]
   refine mvA 8 (v := ?hv20) rfl ?hy20 ?hr20
   case hy20 => (intro w hSw; (try dsimp only at hSw); go_simp; (try with_reducible rfl))
   try simp only [Act.put, lsA, ls0, ls1]
   refine mvA 9 (v := ?hv21) rfl ?hy21 ?hr21
   case hy21 => (intro w hSw; (try dsimp only at hSw); go_simp; (try with_reducible rfl))
   try simp only [Act.put, lsA, ls0, ls1]
   refine mvY 10 (v := .agg (ecs E b3).toArray) rfl (yieldsIf_load_mid (by first | rfl | (simp only [*]; rfl)) 34 _ rfl w3.heap.size 0 rfl (ecs E b3) _ (fun w0 hw0 => (Y8.out.below hw0).range) Tryz.underlying34 rfl size34) ?_
   try simp only [Act.put, lsA, ls0, ls1]
   refine mvY 11 (v := .agg (ecs E a).toArray) rfl (yieldsIf_load_mid (by first | rfl | (simp only [*]; rfl)) 34 _ rfl w.heap.size 0 rfl (ecs E a) _ (fun w0 hw0 => (X8.out.below hw0).range) Tryz.underlying34 rfl size34) ?_
   try simp only [Act.put, lsA, ls0, ls1]
   refine mvR 12 rfl (fun KK hKK => ?_)
   go_simp
   (with_reducible refine (HS1.out _ RB3.out).mono ?_)
   rintro e0 y4 ⟨rfl, hb⟩
   have RB4 := hid (RB3.out.trans (hb.mono RB3.out.size))
   clear hb
   refine hKK.out _ _ (RB4.out) (fun hH4 => ?_)
   clear hKK KK
   try simp only [Act.put, lsA, ls0, ls1]
   refine mvA 13 (v := ?hv22) rfl ?hy22 ?hr22
   case hy22 => (intro w hSw; (try dsimp only at hSw); go_simp; (try with_reducible rfl))
   try simp only [Act.put, lsA, ls0, ls1]
   refine mvA 14 (v := ?hv23) rfl ?hy23 ?hr23
   case hy23 => (intro w hSw; (try dsimp only at hSw); go_simp; (try with_reducible rfl))
   try simp only [Act.put, lsA, ls0, ls1]
   refine mvY 15 (v := .agg (ecs E b3).toArray) rfl (yieldsIf_load_mid (by first | rfl | (simp only [*]; rfl)) 34 _ rfl w3.heap.size 0 rfl (ecs E b3) _ (fun w0 hw0 => (Y8.out.below hw0).range) Tryz.underlying34 rfl size34) ?_
   try simp only [Act.put, lsA, ls0, ls1]
   refine mvY 16 (v := .agg (ecs E a).toArray) rfl (yieldsIf_load_mid (by first | rfl | (simp only [*]; rfl)) 34 _ rfl w.heap.size 0 rfl (ecs E a) _ (fun w0 hw0 => (X8.out.below hw0).range) Tryz.underlying34 rfl size34) ?_
   try simp only [Act.put, lsA, ls0, ls1]
   refine mvR 17 rfl (fun KK hKK => ?_)
   go_simp
   (with_reducible refine (HS2.out _ RB4.out).mono ?_)
   rintro e0 y5 ⟨rfl, hb⟩
   have RB5 := hid (RB4.out.trans (hb.mono RB4.out.size))
   clear hb
   refine hKK.out _ _ (RB5.out) (fun hH5 => ?_)
   clear hKK KK
   try simp only [Act.put, lsA, ls0, ls1]
   refine mvA 18 (v := ?hv24) rfl ?hy24 ?hr24
   case hy24 => (intro w hSw; (try dsimp only at hSw); go_simp; (try with_reducible rfl))
   try simp only [Act.put, lsA, ls0, ls1]
   refine mvA 19 (v := ?hv25) rfl ?hy25 ?hr25
   case hy25 => (intro w hSw; (try dsimp only at hSw); go_simp; (try with_reducible rfl))
   try simp only [Act.put, lsA, ls0, ls1]
   refine mvA 20 (v := ?hv26) rfl ?hy26 ?hr26
   case hy26 => (intro w hSw; (try dsimp only at hSw); go_simp; (try with_reducible rfl))
   try simp only [Act.put, lsA, ls0, ls1]
   refine mvA 21 (v := ?hv27) rfl ?hy27 ?hr27
   case hy27 => (intro w hSw; (try dsimp only at hSw); go_simp; (try with_reducible rfl))
   try simp only [Act.put, lsA, ls0, ls1]
   refine mvA 22 (v := ?hv28) rfl ?hy28 ?hr28
   case hy28 => (intro w hSw; (try dsimp only at hSw); go_simp; (try with_reducible rfl))
   try simp only [Act.put, lsA, ls0, ls1]
   refine mvA 23 (v := ?hv29) rfl ?hy29 ?hr29
   case hy29 => (intro w hSw; (try dsimp only at hSw); go_simp; (try with_reducible rfl))
   try simp only [Act.put, lsA, ls0, ls1]
   refine mvR 24 rfl (fun KK hKK => ?_)
   go_simp
   (with_reducible refine (lives14 _ (HT.out.below RB5.out)).mono ?_)
   rintro e0 y6 ⟨rfl, hb⟩
   have RB6 := hid (RB5.out.trans (hb.mono RB5.out.size))
   clear hb
   refine hKK.out _ _ (RB6.out) (fun hH6 => ?_)
   clear hKK KK
   try simp only [Act.put, lsA, ls0, ls1]
   refine mvA 25 (v := ?hv30) rfl ?hy30 ?hr30
   case hy30 => (intro w hSw; (try dsimp only at hSw); go_simp; (try with_reducible rfl))
   try simp only [Act.put, lsA, ls0, ls1]
   refine mvA 26 (v := ?hv31) rfl ?hy31 ?hr31
   case hy31 => (intro w hSw; (try dsimp only at hSw); go_simp; (try with_reducible rfl))
   try simp only [Act.put, lsA, ls0, ls1]
   refine wpAnyH_done (by kernel_rfl) ?_ _
   go_wp2
   go_ret
   exact ⟨rfl, B8.out.trans (RB6.out.mono B8.out.size)⟩
  refine mvD rfl (fun KK hKK => ?_) AllReadyH.nil
  have hcv := Cd.conv_sl S9.out
  rw [T1.out] at hcv
  go_simp
  have RB2 := RB1
  clear hcv S9
  refine hKK.out _ _ (RB2.out) (fun hH2 => ?_)
  clear hKK KK
  try simp only [Act.put, lsA, ls0, ls1]
  refine mvR 1 rfl (fun KK hKK => ?_)
  have hcv := Cd.conv_sl S8.out
  rw [T1.out] at hcv
  go_simp
  have RB3 := RB2
  clear hcv S8
  refine hKK.out _ _ (RB3.out) (fun hH3 => ?_)
  clear hKK KK
  try simp only [Act.put, lsA, ls0, ls1]
  refine mvA 5 (v := ?hv32) rfl ?hy32 ?hr32
  case hy32 => (intro w hSw; (try dsimp only at hSw); go_simp; (try with_reducible rfl))
  try simp only [Act.put, lsA, ls0, ls1]
  refine mvA 6 (v := ?hv33) rfl ?hy33 ?hr33
  case hy33 => (intro w hSw; (try dsimp only at hSw); go_simp; (try with_reducible rfl))
  try simp only [Act.put, lsA, ls0, ls1]
  refine mvA 7 (v := ?hv34) rfl ?hy34 ?hr34
  case hy34 => (intro w hSw; (try dsimp only at hSw); go_simp; (try with_reducible rfl))
  try simp only [Act.put, lsA, ls0, ls1]
  refine mvA 8 (v := ?hv35) rfl ?hy35 ?hr35
  case hy35 => (intro w hSw; (try dsimp only at hSw); go_simp; (try with_reducible rfl))
  try simp only [Act.put, lsA, ls0, ls1]
  refine mvA 9 (v := ?hv36) rfl ?hy36 ?hr36
  case hy36 => (intro w hSw; (try dsimp only at hSw); go_simp; (try with_reducible rfl))
  try simp only [Act.put, lsA, ls0, ls1]
  refine mvY 10 (v := .agg (ecs E b3).toArray) rfl (yieldsIf_load_mid (by first | rfl | (simp only [*]; rfl)) 34 _ rfl w3.heap.size 0 rfl (ecs E b3) _ (fun w0 hw0 => (Y8.out.below hw0).range) Tryz.underlying34 rfl size34) ?_
  try simp only [Act.put, lsA, ls0, ls1]
  refine mvY 11 (v := .agg (ecs E a).toArray) rfl (yieldsIf_load_mid (by first | rfl | (simp only [*]; rfl)) 34 _ rfl w.heap.size 0 rfl (ecs E a) _ (fun w0 hw0 => (X8.out.below hw0).range) Tryz.underlying34 rfl size34) ?_
  try simp only [Act.put, lsA, ls0, ls1]
  refine mvR 12 rfl (fun KK hKK => ?_)
  go_simp
  (with_reducible refine (HS1.out _ RB3.out).mono ?_)
  rintro e0 y4 ⟨rfl, hb⟩
  have RB4 := hid (RB3.out.trans (hb.mono RB3.out.size))
  clear hb
  refine hKK.out _ _ (RB4.out) (fun hH4 => ?_)
  clear hKK KK
  try simp only [Act.put, lsA, ls0, ls1]
  refine mvA 13 (v := ?hv37) rfl ?hy37 ?hr37
  case hy37 => (intro w hSw; (try dsimp only at hSw); go_simp; (try with_reducible rfl))
  try simp only [Act.put, lsA, ls0, ls1]
  refine mvA 14 (v := ?hv38) rfl ?hy38 ?hr38
  case hy38 => (intro w hSw; (try dsimp only at hSw); go_simp; (try with_reducible rfl))
  try simp only [Act.put, lsA, ls0, ls1]
  refine mvY 15 (v := .agg (ecs E b3).toArray) rfl (yieldsIf_load_mid (by first | rfl | (simp only [*]; rfl)) 34 _ rfl w3.heap.size 0 rfl (ecs E b3) _ (fun w0 hw0 => (Y8.out.below hw0).range) Tryz.underlying34 rfl size34) ?_
  try simp only [Act.put, lsA, ls0, ls1]
  refine mvY 16 (v := .agg (ecs E a).toArray) rfl (yieldsIf_load_mid (by first | rfl | (simp only [*]; rfl)) 34 _ rfl w.heap.size 0 rfl (ecs E a) _ (fun w0 hw0 => (X8.out.below hw0).range) Tryz.underlying34 rfl size34) ?_
  try simp only [Act.put, lsA, ls0, ls1]
  refine mvR 17 rfl (fun KK hKK => ?_)
  go_simp
  (with_reducible refine (HS2.out _ RB4.out).mono ?_)
  rintro e0 y5 ⟨rfl, hb⟩
  have RB5 := hid (RB4.out.trans (hb.mono RB4.out.size))
  clear hb
  refine hKK.out _ _ (RB5.out) (fun hH5 => ?_)
  clear hKK KK
  try simp only [Act.put, lsA, ls0, ls1]
  refine mvA 18 (v := ?hv39) rfl ?hy39 ?hr39
  case hy39 => (intro w hSw; (try dsimp only at hSw); go_simp; (try with_reducible rfl))
  try simp only [Act.put, lsA, ls0, ls1]
  refine mvA 19 (v := ?hv40) rfl ?hy40 ?hr40
  case hy40 => (intro w hSw; (try dsimp only at hSw); go_simp; (try with_reducible rfl))
  try simp only [Act.put, lsA, ls0, ls1]
  refine mvA 20 (v := ?hv41) rfl ?hy41 ?hr41
  case hy41 => (intro w hSw; (try dsimp only at hSw); go_simp; (try with_reducible rfl))
  try simp only [Act.put, lsA, ls0, ls1]
  refine mvA 21 (v := ?hv42) rfl ?hy42 ?hr42
  case hy42 => (intro w hSw; (try dsimp only at hSw); go_simp; (try with_reducible rfl))
  try simp only [Act.put, lsA, ls0, ls1]
  refine mvA 22 (v := ?hv43) rfl ?hy43 ?hr43
  case hy43 => (intro w hSw; (try dsimp only at hSw); go_simp; (try with_reducible rfl))
  try simp only [Act.put, lsA, ls0, ls1]
  refine mvA 23 (v := ?hv44) rfl ?hy44 ?hr44
  case hy44 => (intro w hSw; (try dsimp only at hSw); go_simp; (try with_reducible rfl))
  try simp only [Act.put, lsA, ls0, ls1]
  refine mvR 24 rfl (fun KK hKK => ?_)
  go_simp
  (with_reducible refine (lives14 _ (HT.out.below RB5.out)).mono ?_)
  rintro e0 y6 ⟨rfl, hb⟩
  have RB6 := hid (RB5.out.trans (hb.mono RB5.out.size))
  clear hb
  refine hKK.out _ _ (RB6.out) (fun hH6 => ?_)
  clear hKK KK
  try simp only [Act.put, lsA, ls0, ls1]
  refine mvA 25 (v := ?hv45) rfl ?hy45 ?hr45
  case hy45 => (intro w hSw; (try dsimp only at hSw); go_simp; (try with_reducible rfl))
  try simp only [Act.put, lsA, ls0, ls1]
  refine mvA 26 (v := ?hv46) rfl ?hy46 ?hr46
  case hy46 => (intro w hSw; (try dsimp only at hSw); go_simp; (try with_reducible rfl))
  try simp only [Act.put, lsA, ls0, ls1]
  refine wpAnyH_done (by kernel_rfl) ?_ _
  go_wp2
  go_ret
  exact ⟨rfl, B8.out.trans (RB6.out.mono B8.out.size)⟩
end Go.Proofs.YtablocpcgknmaaaGreatDoor
