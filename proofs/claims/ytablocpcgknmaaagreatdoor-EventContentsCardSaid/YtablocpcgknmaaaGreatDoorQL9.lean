/- EventContents: its walk. No condition. -/
import Derived.Test.YtablocpcgknmaaaGreatDoorQPh
import Derived.Test.YtablocpcgknmaaaGreatDoorQL5
import Derived.Test.YtablocpcgknmaaaGreatDoorQV19
namespace Go.Proofs.YtablocpcgknmaaaGreatDoor
open Go.Lib (hid)
open Go Go.RowKit
set_option linter.unusedVariables false
set_option linter.unusedSimpArgs false
set_option maxRecDepth 100000

set_option maxHeartbeats 64000000 in
theorem contents_walk (E : Ew) (a : Aw) (C : Cn) (x : Ads) (w : World) (h : IsE w E a) (hc : IsC w C x) (hl : Lt w) : Calls Tryz.prog 9 #[.agg (ecs E a).toArray, .agg (ccs C x).toArray] w fun e w' => e = .returned (.bool true) ∧ Below w.heap.size w w' := by
 have BA := hid (((Below.refl w.heap.size w).alloc (Nat.le_refl _) (.cells (ecs E a).toArray 34)).alloc (by simp) (.cells (ccs C x).toArray 30))
 have XA := hid ((blk_new w (ecs E a) 34).alloc (.cells (ccs C x).toArray 30))
 have YA := hid (blk_new2 w (.cells (ecs E a).toArray 34) (ccs C x) 30)
 have HH := hid h
 have HC := hid hc
 have HL := hid hl
 generalize hW0 : (w.alloc (.cells (ecs E a).toArray 34)).alloc (.cells (ccs C x).toArray 30) = W0 at BA XA YA
 have hb0 : ∀ y, Below W0.heap.size W0 y → Below w.heap.size w y := fun y hb => BA.out.trans (hb.mono BA.out.size)
 have HF := hid (fun y (hb : Below W0.heap.size W0 y) => small13 E a y (h.below (hb0 y hb)))
 have HSL := hid (fun y (hb : Below W0.heap.size W0 y) => slight34 C x y (hc.below (hb0 y hb)))
 have HV := hid (fun y (hz : SmZ E) (hb : Below W0.heap.size W0 y) => verify30 E a y (h.below (hb0 y hb)) hz (hl.below (hb0 y hb)))
 have HS1 := hid (fun y (hb : Below W0.heap.size W0 y) => rstrip22 E.kd C x y (hc.below (hb0 y hb)))
 have HS2 := hid (fun y (hb : Below W0.heap.size W0 y) => rstrip22 E.kd E.c a.c y (h.c.below (hb0 y hb)))
 have HSM := hid (fun aL aM y (h1 : IsC y (strip E.kd C) aL) (h2 : IsC y (strip E.kd E.c) aM) => same23 (strip E.kd C) (strip E.kd E.c) aL aM y h1 h2)
 have HR := hid (fun y (hz : SmZ (E.wc C)) (hi : IsE y (E.wc C) (a.wc x)) (hb : Below w.heap.size w y) => receive29 (E.wc C) (a.wc x) y hi hz (hl.below hb))
 have HW := hid (fun y (hz : SmZ (E.wc C)) (hi : IsE y (E.wc C) (a.wc x)) (hb : Below w.heap.size w y) => whole21 (E.wc C) (a.wc x) y hi hz.c)
 have HST := hid (fun y (hz : SmZ E) (hb : Below w.heap.size w y) => strip23 E a y (h.below hb) hz.v (hl.below hb))
 unfold StS at HS1 HS2
 unfold ClN at HST
 unfold RcP at HR
 obtain ⟨v, hv⟩ : ∃ v, verI E (whoB E) = v := ⟨_, rfl⟩
 simp only [hv] at HV
 obtain ⟨m, hm⟩ : ∃ m, sameC (strip E.kd C) (strip E.kd E.c) = m := ⟨_, rfl⟩
 simp only [hm] at HSM
 have HX := hid (fun (s0 : (v == 0) = true) (hm1 : m = true) => ct_cases (E := E) (C := C) (by rw [hv]; simpa using s0) (by rw [hm, hm1]))
 clear hv hm h hc hl hb0
 generalize strip E.kd C = D1 at HS1 HSM
 generalize strip E.kd E.c = D2 at HS2 HSM
 generalize rcvI (E.wc C) = r at HR HX
 generalize rcvE (E.wc C) = G at HR HX
 dsimp only [ecs, ccs] at hW0 ⊢
 go_enter Tryz.func9, Tryz.ntmps9
 go_upto_region 1 with (fail)
 refine wp_region_held_drew (S := (fun y => Below W0.heap.size W0 y)) (by kernel_rfl) ((Below.refl W0.heap.size W0).drew) (fun hH0 => ?_)
 generalize hy0 : World.drew _ = y0 at hH0 ⊢
 have RB0 : Hid (Below W0.heap.size W0 y0) := hid hH0
 clear hy0
 refine mvY 0 (v := .agg (ecs E a).toArray) rfl (yieldsIf_load_mid (by first | rfl | (simp only [*]; rfl)) 34 _ rfl w.heap.size 0 rfl (ecs E a) _ (fun w0 hw0 => (XA.out.below hw0).range) Tryz.underlying34 rfl size34) ?_
 try simp only [Act.put, lsA, ls0, ls1]
 refine mvR 1 rfl (fun KK hKK => ?_)
 go_simp
 (with_reducible refine (HF.out _ RB0.out).mono ?_)
 rintro e0 y1 ⟨q, rfl, hq, hb⟩
 have RB1 := hid (RB0.out.trans (hb.mono RB0.out.size))
 have Q1 := hid (show Qz q (SmZ E) from hq)
 clear hq HF
 clear hb
 refine hKK.out _ _ (RB1.out) (fun hH1 => ?_)
 clear hKK KK
 try simp only [Act.put, lsA, ls0, ls1]
 cases q
 ·refine mvA 2 (v := ?hv1) rfl ?hy1 ?hr1
  case hy1 => (intro w hSw; (try dsimp only at hSw); go_simp; (try with_reducible rfl))
  try simp only [Act.put, lsA, ls0, ls1]
  refine mvA 3 (v := ?hv2) rfl ?hy2 ?hr2
  case hy2 => (intro w hSw; (try dsimp only at hSw); go_simp; (try with_reducible rfl))
  try simp only [Act.put, lsA, ls0, ls1]
  refine mvU 4 rfl ?_
  try simp only [Act.put, lsA, ls0, ls1]
  refine mvR 5 rfl (fun KK hKK => ?_)
  go_simp
  refine hKK.out _ _ (hH1) (fun hH2 => ?_)
  clear hKK KK
  try simp only [Act.put, lsA, ls0, ls1]
  refine mvU 6 rfl ?_
  try simp only [Act.put, lsA, ls0, ls1]
  refine mvA 7 (v := ?hv3) rfl ?hy3 ?hr3
  case hy3 => (intro w hSw; (try dsimp only at hSw); go_simp; (try with_reducible rfl))
  try simp only [Act.put, lsA, ls0, ls1]
  refine mvA 8 (v := ?hv4) rfl ?hy4 ?hr4
  case hy4 => (intro w hSw; (try dsimp only at hSw); go_simp; (try with_reducible rfl))
  try simp only [Act.put, lsA, ls0, ls1]
  refine mvU 9 rfl ?_
  try simp only [Act.put, lsA, ls0, ls1]
  refine mvR 10 rfl (fun KK hKK => ?_)
  go_simp
  refine hKK.out _ _ (hH2) (fun hH3 => ?_)
  clear hKK KK
  try simp only [Act.put, lsA, ls0, ls1]
  refine mvU 11 rfl ?_
  try simp only [Act.put, lsA, ls0, ls1]
  refine mvA 12 (v := ?hv5) rfl ?hy5 ?hr5
  case hy5 => (intro w hSw; (try dsimp only at hSw); go_simp; (try with_reducible rfl))
  try simp only [Act.put, lsA, ls0, ls1]
  refine mvA 13 (v := ?hv6) rfl ?hy6 ?hr6
  case hy6 => (intro w hSw; (try dsimp only at hSw); go_simp; (try with_reducible rfl))
  try simp only [Act.put, lsA, ls0, ls1]
  refine mvU 14 rfl ?_
  try simp only [Act.put, lsA, ls0, ls1]
  refine mvU 15 rfl ?_
  try simp only [Act.put, lsA, ls0, ls1]
  refine mvU 16 rfl ?_
  try simp only [Act.put, lsA, ls0, ls1]
  refine mvU 18 rfl ?_
  try simp only [Act.put, lsA, ls0, ls1]
  refine mvU 19 rfl ?_
  try simp only [Act.put, lsA, ls0, ls1]
  refine mvU 20 rfl ?_
  try simp only [Act.put, lsA, ls0, ls1]
  refine mvU 21 rfl ?_
  try simp only [Act.put, lsA, ls0, ls1]
  refine mvR 17 rfl (fun KK hKK => ?_)
  go_simp
  refine hKK.out _ _ (hH3) (fun hH4 => ?_)
  clear hKK KK
  try simp only [Act.put, lsA, ls0, ls1]
  refine mvR 22 rfl (fun KK hKK => ?_)
  go_simp
  refine hKK.out _ _ (hH4) (fun hH5 => ?_)
  clear hKK KK
  try simp only [Act.put, lsA, ls0, ls1]
  refine mvR 23 rfl (fun KK hKK => ?_)
  go_simp
  refine hKK.out _ _ (hH5) (fun hH6 => ?_)
  clear hKK KK
  try simp only [Act.put, lsA, ls0, ls1]
  refine mvU 24 rfl ?_
  try simp only [Act.put, lsA, ls0, ls1]
  refine mvA 25 (v := ?hv7) rfl ?hy7 ?hr7
  case hy7 => (intro w hSw; (try dsimp only at hSw); go_simp; (try with_reducible rfl))
  try simp only [Act.put, lsA, ls0, ls1]
  refine wpAnyH_done (by kernel_rfl) ?_ _
  have B1 := hid (BA.out.trans (RB1.out.mono BA.out.size))
  go_wp2_with (first
   | (go_at_call 14; (with_reducible refine (lives14 _ (HL.out.below B1.out)).mono ?_); rintro e w9 ⟨rfl, hb⟩; have B9 := hid (B1.out.trans (hb.mono B1.out.size)); clear hb)
   | fail)
  go_ret
  exact ⟨rfl, B9.out⟩
 ·refine mvA 2 (v := ?hv8) rfl ?hy8 ?hr8
  case hy8 => (intro w hSw; (try dsimp only at hSw); go_simp; (try with_reducible rfl))
  try simp only [Act.put, lsA, ls0, ls1]
  refine mvA 3 (v := ?hv9) rfl ?hy9 ?hr9
  case hy9 => (intro w hSw; (try dsimp only at hSw); go_simp; (try with_reducible rfl))
  try simp only [Act.put, lsA, ls0, ls1]
  refine mvY 4 (v := .agg (ccs C x).toArray) rfl (yieldsIf_load_mid (by first | rfl | (simp only [*]; rfl)) 30 _ rfl (w.heap.size + 1) 0 rfl (ccs C x) _ (fun w0 hw0 => (YA.out.below hw0).range) Tryz.underlying30 rfl size29) ?_
  try simp only [Act.put, lsA, ls0, ls1]
  refine mvR 5 rfl (fun KK hKK => ?_)
  go_simp
  (with_reducible refine (HSL.out _ RB1.out).mono ?_)
  rintro e0 y2 ⟨q, rfl, hq, hb⟩
  have RB2 := hid (RB1.out.trans (hb.mono RB1.out.size))
  have Q2 := hid (show Qz q (SmE C) from hq)
  clear hq HSL
  clear hb
  refine hKK.out _ _ (RB2.out) (fun hH2 => ?_)
  clear hKK KK
  try simp only [Act.put, lsA, ls0, ls1]
  cases q
  ·refine mvA 6 (v := ?hv10) rfl ?hy10 ?hr10
   case hy10 => (intro w hSw; (try dsimp only at hSw); go_simp; (try with_reducible rfl))
   try simp only [Act.put, lsA, ls0, ls1]
   refine mvA 7 (v := ?hv11) rfl ?hy11 ?hr11
   case hy11 => (intro w hSw; (try dsimp only at hSw); go_simp; (try with_reducible rfl))
   try simp only [Act.put, lsA, ls0, ls1]
   refine mvA 8 (v := ?hv12) rfl ?hy12 ?hr12
   case hy12 => (intro w hSw; (try dsimp only at hSw); go_simp; (try with_reducible rfl))
   try simp only [Act.put, lsA, ls0, ls1]
   refine mvU 9 rfl ?_
   try simp only [Act.put, lsA, ls0, ls1]
   refine mvR 10 rfl (fun KK hKK => ?_)
   go_simp
   refine hKK.out _ _ (hH2) (fun hH3 => ?_)
   clear hKK KK
   try simp only [Act.put, lsA, ls0, ls1]
   refine mvU 11 rfl ?_
   try simp only [Act.put, lsA, ls0, ls1]
   refine mvA 12 (v := ?hv13) rfl ?hy13 ?hr13
   case hy13 => (intro w hSw; (try dsimp only at hSw); go_simp; (try with_reducible rfl))
   try simp only [Act.put, lsA, ls0, ls1]
   refine mvA 13 (v := ?hv14) rfl ?hy14 ?hr14
   case hy14 => (intro w hSw; (try dsimp only at hSw); go_simp; (try with_reducible rfl))
   try simp only [Act.put, lsA, ls0, ls1]
   refine mvU 14 rfl ?_
   try simp only [Act.put, lsA, ls0, ls1]
   refine mvU 15 rfl ?_
   try simp only [Act.put, lsA, ls0, ls1]
   refine mvU 16 rfl ?_
   try simp only [Act.put, lsA, ls0, ls1]
   refine mvU 18 rfl ?_
   try simp only [Act.put, lsA, ls0, ls1]
   refine mvU 19 rfl ?_
   try simp only [Act.put, lsA, ls0, ls1]
   refine mvU 20 rfl ?_
   try simp only [Act.put, lsA, ls0, ls1]
   refine mvU 21 rfl ?_
   try simp only [Act.put, lsA, ls0, ls1]
   refine mvR 17 rfl (fun KK hKK => ?_)
   go_simp
   refine hKK.out _ _ (hH3) (fun hH4 => ?_)
   clear hKK KK
   try simp only [Act.put, lsA, ls0, ls1]
   refine mvR 22 rfl (fun KK hKK => ?_)
   go_simp
   refine hKK.out _ _ (hH4) (fun hH5 => ?_)
   clear hKK KK
   try simp only [Act.put, lsA, ls0, ls1]
   refine mvR 23 rfl (fun KK hKK => ?_)
   go_simp
   refine hKK.out _ _ (hH5) (fun hH6 => ?_)
   clear hKK KK
   try simp only [Act.put, lsA, ls0, ls1]
   refine mvU 24 rfl ?_
   try simp only [Act.put, lsA, ls0, ls1]
   refine mvA 25 (v := ?hv15) rfl ?hy15 ?hr15
   case hy15 => (intro w hSw; (try dsimp only at hSw); go_simp; (try with_reducible rfl))
   try simp only [Act.put, lsA, ls0, ls1]
   refine wpAnyH_done (by kernel_rfl) ?_ _
   have B1 := hid (BA.out.trans (RB2.out.mono BA.out.size))
   go_wp2_with (first
    | (go_at_call 14; (with_reducible refine (lives14 _ (HL.out.below B1.out)).mono ?_); rintro e w9 ⟨rfl, hb⟩; have B9 := hid (B1.out.trans (hb.mono B1.out.size)); clear hb)
    | fail)
   go_ret
   exact ⟨rfl, B9.out⟩
  ·refine mvA 6 (v := ?hv16) rfl ?hy16 ?hr16
   case hy16 => (intro w hSw; (try dsimp only at hSw); go_simp; (try with_reducible rfl))
   try simp only [Act.put, lsA, ls0, ls1]
   refine mvA 7 (v := ?hv17) rfl ?hy17 ?hr17
   case hy17 => (intro w hSw; (try dsimp only at hSw); go_simp; (try with_reducible rfl))
   try simp only [Act.put, lsA, ls0, ls1]
   refine mvA 8 (v := ?hv18) rfl ?hy18 ?hr18
   case hy18 => (intro w hSw; (try dsimp only at hSw); go_simp; (try with_reducible rfl))
   try simp only [Act.put, lsA, ls0, ls1]
   refine mvY 9 (v := .agg (ecs E a).toArray) rfl (yieldsIf_load_mid (by first | rfl | (simp only [*]; rfl)) 34 _ rfl w.heap.size 0 rfl (ecs E a) _ (fun w0 hw0 => (XA.out.below hw0).range) Tryz.underlying34 rfl size34) ?_
   try simp only [Act.put, lsA, ls0, ls1]
   refine mvR 10 rfl (fun KK hKK => ?_)
   go_simp
   (with_reducible refine (HV.out _ Q1.out.yes RB2.out).mono ?_)
   rintro e0 y3 ⟨rfl, hb⟩
   have RB3 := hid (RB2.out.trans (hb.mono RB2.out.size))
   clear HV
   clear hb
   refine hKK.out _ _ (RB3.out) (fun hH3 => ?_)
   clear hKK KK
   try simp only [Act.put, lsA, ls0, ls1]
   cases s0 : (v == 0)
   ·have s0b : (v != 0) = true := by simp [bne, s0]
    refine mvA 11 (v := ?hv19) rfl ?hy19 ?hr19
    case hy19 => (intro w hSw; (try dsimp only at hSw); go_simp; (try with_reducible rfl))
    try simp only [Act.put, lsA, ls0, ls1]
    refine mvA 12 (v := ?hv20) rfl ?hy20 ?hr20
    case hy20 => (intro w hSw; (try dsimp only at hSw); go_simp; (try with_reducible rfl))
    try simp only [Act.put, lsA, ls0, ls1]
    refine mvA 13 (v := ?hv21) rfl ?hy21 ?hr21
    case hy21 => (intro w hSw; (try dsimp only at hSw); go_simp; (try with_reducible rfl))
    try simp only [Act.put, lsA, ls0, ls1]
    refine mvU 14 rfl ?_
    try simp only [Act.put, lsA, ls0, ls1]
    refine mvU 15 rfl ?_
    try simp only [Act.put, lsA, ls0, ls1]
    refine mvU 16 rfl ?_
    try simp only [Act.put, lsA, ls0, ls1]
    refine mvU 18 rfl ?_
    try simp only [Act.put, lsA, ls0, ls1]
    refine mvU 19 rfl ?_
    try simp only [Act.put, lsA, ls0, ls1]
    refine mvU 20 rfl ?_
    try simp only [Act.put, lsA, ls0, ls1]
    refine mvU 21 rfl ?_
    try simp only [Act.put, lsA, ls0, ls1]
    refine mvR 17 rfl (fun KK hKK => ?_)
    go_simp
    refine hKK.out _ _ (hH3) (fun hH4 => ?_)
    clear hKK KK
    try simp only [Act.put, lsA, ls0, ls1]
    refine mvR 22 rfl (fun KK hKK => ?_)
    go_simp
    refine hKK.out _ _ (hH4) (fun hH5 => ?_)
    clear hKK KK
    try simp only [Act.put, lsA, ls0, ls1]
    refine mvR 23 rfl (fun KK hKK => ?_)
    go_simp
    refine hKK.out _ _ (hH5) (fun hH6 => ?_)
    clear hKK KK
    try simp only [Act.put, lsA, ls0, ls1]
    refine mvU 24 rfl ?_
    try simp only [Act.put, lsA, ls0, ls1]
    refine mvA 25 (v := ?hv22) rfl ?hy22 ?hr22
    case hy22 => (intro w hSw; (try dsimp only at hSw); go_simp; (try with_reducible rfl))
    try simp only [Act.put, lsA, ls0, ls1]
    refine wpAnyH_done (by kernel_rfl) ?_ _
    have B1 := hid (BA.out.trans (RB3.out.mono BA.out.size))
    go_wp2_with (first
     | (go_at_call 14; (with_reducible refine (lives14 _ (HL.out.below B1.out)).mono ?_); rintro e w9 ⟨rfl, hb⟩; have B9 := hid (B1.out.trans (hb.mono B1.out.size)); clear hb)
     | fail)
    go_ret
    exact ⟨rfl, B9.out⟩
   ·have s0b : (v != 0) = false := by simp [bne, s0]
    refine mvA 11 (v := ?hv23) rfl ?hy23 ?hr23
    case hy23 => (intro w hSw; (try dsimp only at hSw); go_simp; (try with_reducible rfl))
    try simp only [Act.put, lsA, ls0, ls1]
    refine mvA 12 (v := ?hv24) rfl ?hy24 ?hr24
    case hy24 => (intro w hSw; (try dsimp only at hSw); go_simp; (try with_reducible rfl))
    try simp only [Act.put, lsA, ls0, ls1]
    refine mvA 13 (v := ?hv25) rfl ?hy25 ?hr25
    case hy25 => (intro w hSw; (try dsimp only at hSw); go_simp; (try with_reducible rfl))
    try simp only [Act.put, lsA, ls0, ls1]
    refine mvA 14 (v := ?hv26) rfl ?hy26 ?hr26
    case hy26 => (intro w hSw; (try dsimp only at hSw); go_simp; (try with_reducible rfl))
    try simp only [Act.put, lsA, ls0, ls1]
    refine mvA 15 (v := .int .i64 E.kd) rfl (fun w0 hw0 => by have q0 := (XA.out.below hw0).cell (i := 3) rfl; go_simp) ?_
    try simp only [Act.put, lsA, ls0, ls1]
    refine mvY 16 (v := .agg (ccs C x).toArray) rfl (yieldsIf_load_mid (by first | rfl | (simp only [*]; rfl)) 30 _ rfl (w.heap.size + 1) 0 rfl (ccs C x) _ (fun w0 hw0 => (YA.out.below hw0).range) Tryz.underlying30 rfl size29) ?_
    try simp only [Act.put, lsA, ls0, ls1]
    refine mvA 18 (v := ?hv27) rfl ?hy27 ?hr27
    case hy27 => (intro w hSw; (try dsimp only at hSw); go_simp; (try with_reducible rfl))
    try simp only [Act.put, lsA, ls0, ls1]
    refine mvA 19 (v := .int .i64 E.kd) rfl (fun w0 hw0 => by have q0 := (XA.out.below hw0).cell (i := 3) rfl; go_simp) ?_
    try simp only [Act.put, lsA, ls0, ls1]
    refine mvA 20 (v := ?hv28) rfl ?hy28 ?hr28
    case hy28 => (intro w hSw; (try dsimp only at hSw); go_simp; (try with_reducible rfl))
    try simp only [Act.put, lsA, ls0, ls1]
    refine mvY 21 (v := .agg (ccs E.c a.c).toArray) rfl (yieldsIf_load_mid (by first | rfl | (simp only [*]; rfl)) 30 _ rfl w.heap.size 10 rfl (ccs E.c a.c) _ (fun w0 hw0 => (XA.out.below hw0).mid 10 16) Tryz.underlying30 rfl size29) ?_
    try simp only [Act.put, lsA, ls0, ls1]
    refine mvR 17 rfl (fun KK hKK => ?_)
    go_simp
    (with_reducible refine (HS1.out _ RB3.out).mono ?_)
    rintro e0 y4 ⟨aL, rfl, hi, hb, hn⟩
    have RB4 := hid (RB3.out.trans (hb.mono RB3.out.size))
    have I1 := hid hi
    clear hi hn HS1
    clear hb
    refine hKK.out _ _ (RB4.out) (fun hH4 => ?_)
    clear hKK KK
    try simp only [Act.put, lsA, ls0, ls1]
    refine mvR 22 rfl (fun KK hKK => ?_)
    go_simp
    (with_reducible refine (HS2.out _ RB4.out).mono ?_)
    rintro e0 y5 ⟨aM, rfl, hi, hb, hn⟩
    have RB5 := hid (RB4.out.trans (hb.mono RB4.out.size))
    have J1 := hid (I1.out.below hb)
    have I2 := hid hi
    clear hi hn HS2 I1
    clear hb
    refine hKK.out _ _ (RB5.out) (fun hH5 => ?_)
    clear hKK KK
    try simp only [Act.put, lsA, ls0, ls1]
    refine mvR 23 rfl (fun KK hKK => ?_)
    go_simp
    (with_reducible refine (HSM.out aL aM _ J1.out I2.out).mono ?_)
    rintro e0 y6 ⟨rfl, hb⟩
    have RB6 := hid (RB5.out.trans (hb.mono RB5.out.size))
    clear HSM J1 I2
    clear hb
    refine hKK.out _ _ (RB6.out) (fun hH6 => ?_)
    clear hKK KK
    try simp only [Act.put, lsA, ls0, ls1]
    cases m
    ·refine mvA 24 (v := ?hv29) rfl ?hy29 ?hr29
     case hy29 => (intro w hSw; (try dsimp only at hSw); go_simp; (try with_reducible rfl))
     try simp only [Act.put, lsA, ls0, ls1]
     refine mvA 25 (v := ?hv30) rfl ?hy30 ?hr30
     case hy30 => (intro w hSw; (try dsimp only at hSw); go_simp; (try with_reducible rfl))
     try simp only [Act.put, lsA, ls0, ls1]
     refine wpAnyH_done (by kernel_rfl) ?_ _
     have B1 := hid (BA.out.trans (RB6.out.mono BA.out.size))
     go_wp2_with (first
      | (go_at_call 14; (with_reducible refine (lives14 _ (HL.out.below B1.out)).mono ?_); rintro e w9 ⟨rfl, hb⟩; have B9 := hid (B1.out.trans (hb.mono B1.out.size)); clear hb)
      | fail)
     go_ret
     exact ⟨rfl, B9.out⟩
    ·refine mvA 24 (v := ?hv31) rfl ?hy31 ?hr31
     case hy31 => (intro w hSw; (try dsimp only at hSw); go_simp; (try with_reducible rfl))
     try simp only [Act.put, lsA, ls0, ls1]
     refine mvA 25 (v := ?hv32) rfl ?hy32 ?hr32
     case hy32 => (intro w hSw; (try dsimp only at hSw); go_simp; (try with_reducible rfl))
     try simp only [Act.put, lsA, ls0, ls1]
     refine wpAnyH_done (by kernel_rfl) ?_ _
     have B1 := hid (BA.out.trans (RB6.out.mono BA.out.size))
     have X1 := hid (XA.out.below RB6.out)
     have Y1 := hid (YA.out.below RB6.out)
     clear XA YA BA RB0 RB1 RB2 RB3 RB4 RB5 RB6
     generalize y6 = w1 at B1 X1 Y1 ⊢
     have HZ := hid Q1.out.yes
     have HZF := hid (show SmZ (E.wc C) from ⟨HZ.out.rm, HZ.out.sd, HZ.out.ky, HZ.out.sv, HZ.out.pv, HZ.out.au, Q2.out.yes⟩)
     have K1 := hid (show IsE w1 (E.wc C) (a.wc x) from { (HH.out.below B1.out) with c := HC.out.below B1.out })
     have A1 := hid (K1.out.ap (Nat.le_refl w1.heap.size))
     have L1 := hid X1.out.lt
     have C1 := B1
     clear Q1 Q2
     go_upto_region 4 with (first
      | (refine load_mid_g (by first | rfl | (simp only [*]; rfl)) 34 _ rfl w.heap.size 0 rfl (ecs E a) _ X1.out.range Tryz.underlying34 rfl size34 ?_)
      | (refine store_as34 rfl 34 _ _ rfl z29 (ecs E a) rfl rfl rfl size34 (ecs_one E a) ?_; intro w3 hx hb; have P3 := hid (show Blk w3 w1.heap.size (ecs E a) 34 from hx); have B3 := hid (B1.out.trans (hb.mono B1.out.size)); have X3 := hid (X1.out.below hb); have Y3 := hid (Y1.out.below hb); have K3 := hid (K1.out.below hb); clear hx hb)
      | fail)
     clear X1 Y1 B1 K1
     go_upto_region 5 with (first
      | (refine load_mid_g (by first | rfl | (simp only [*]; rfl)) 30 _ rfl (w.heap.size + 1) 0 rfl (ccs C x) _ Y3.out.range Tryz.underlying30 rfl size29 ?_)
      | (refine store_mid_as rfl 30 _ _ rfl w1.heap.size 10 (ccs C x).toArray rfl rfl (Blk.thereAt P3.out 10 16 (show (10 : Nat) + 16 ≤ 29 by decide)) size29 (by simp [Value.oneCell']) ?_; intro w4 eu; have P4 := hid (show Blk w4 w1.heap.size (ecs (E.wc C) (a.wc x)) 34 by rw [eu]; exact set_midl (ccs C x) ((ecs E a).take 10) (ccs E.c a.c) ((ecs E a).drop 26) w3 P3.out rfl); have K4 := hid (show IsE w4 (E.wc C) (a.wc x) by rw [eu]; exact K3.out.otherE _ _ _ A1.out); have X4 := hid (show Blk w4 w.heap.size (ecs E a) 34 by rw [eu]; exact X3.out.otherAll _ _ _ (by have := L1.out; omega)); have B4 := hid (show Below w.heap.size w w4 by rw [eu]; exact below_setAll C1.out.size _ _ _ B3.out); clear eu K3 X3 B3 P3 Y3)
      | fail)
     clear A1 L1 C1
     go_upto_region 6 with (first
      | (refine load_mid_g (by first | rfl | (simp only [*]; rfl)) 34 _ rfl w1.heap.size 0 rfl (ecs (E.wc C) (a.wc x)) _ P4.out.range Tryz.underlying34 rfl size34 ?_)
      | (go_at_call 29; (with_reducible refine (HR.out w4 HZF.out K4.out B4.out).mono ?_); rintro e w2 ⟨b2, rfl, hi, hb⟩; have R2 := hid hi; have B2 := hid (B4.out.trans (hb.mono B4.out.size)); have X2 := hid (X4.out.below hb); have P2 := hid (P4.out.below hb); have K2 := hid (K4.out.below hb); clear hi hb HR)
      | (refine store_as34 rfl 34 _ _ rfl z29 (ecs G b2) rfl rfl rfl size34 (ecs_one _ _) ?_; intro w5 hx hb; have G5 := hid hx; have R5 := hid (R2.out.below hb); have B5 := hid (B2.out.trans (hb.mono B2.out.size)); have X5 := hid (X2.out.below hb); have P5 := hid (P2.out.below hb); have K5 := hid (K2.out.below hb); clear hx hb)
      | fail)
     clear X2 P2 K2 R2 B2 X4 P4 K4 B4
     have HT := hid (HL.out.below B5.out)
     rcases HX.out s0 (by first | rfl | trivial) with ⟨hw, hr, hg⟩ | ⟨hw, hr⟩ | ⟨hw, hr, hg⟩
     ·subst hr hg
      rw [hw] at HW
      clear hw HX
      go_wp2_with (first
       | (refine load_mid_g (by first | rfl | (simp only [*]; rfl)) 34 _ rfl w1.heap.size 0 rfl (ecs (E.wc C) (a.wc x)) _ P5.out.range Tryz.underlying34 rfl size34 ?_)
       | (go_at_call 21; (with_reducible refine (HW.out _ HZF.out K5.out B5.out).mono ?_); rintro e w6 ⟨rfl, hb⟩; have B6 := hid (B5.out.trans (hb.mono B5.out.size)); have X6 := hid (X5.out.below hb); have P6 := hid (P5.out.below hb); have K6 := hid (K5.out.below hb); have G6 := hid (G5.out.below hb); have R6 := hid (R5.out.below hb); clear hb HW)
       | (refine load_mid_g (by first | rfl | (simp only [*]; rfl)) 34 _ rfl w2.heap.size 0 rfl (ecs (E.wc C) b2) _ G6.out.range Tryz.underlying34 rfl size34 ?_)
       | (refine load_mid_g (by first | rfl | (simp only [*]; rfl)) 34 _ rfl w1.heap.size 0 rfl (ecs (E.wc C) (a.wc x)) _ P6.out.range Tryz.underlying34 rfl size34 ?_)
       | (go_at_call 24; (with_reducible refine (rsame24t (E.wc C) b2 (a.wc x) w6 R6.out K6.out).mono ?_); rintro e w7 ⟨rfl, hb⟩; have B7 := hid (B6.out.trans (hb.mono B6.out.size)); clear hb)
       | (go_at_call 14; (with_reducible refine (lives14 _ (HL.out.below B7.out)).mono ?_); rintro e w9 ⟨rfl, hb⟩; have B9 := hid (B7.out.trans (hb.mono B7.out.size)); clear hb)
       | fail)
      go_ret
      exact ⟨rfl, B9.out⟩
     ·have hr2 : (r != 0) = true := by simp [bne, hr]
      rw [hw] at HW
      clear hw HX
      go_wp2_with (first
       | (refine load_mid_g (by first | rfl | (simp only [*]; rfl)) 34 _ rfl w1.heap.size 0 rfl (ecs (E.wc C) (a.wc x)) _ P5.out.range Tryz.underlying34 rfl size34 ?_)
       | (go_at_call 21; (with_reducible refine (HW.out _ HZF.out K5.out B5.out).mono ?_); rintro e w6 ⟨rfl, hb⟩; have B6 := hid (B5.out.trans (hb.mono B5.out.size)); clear hb HW)
       | (go_at_call 14; (with_reducible refine (lives14 _ (HL.out.below B6.out)).mono ?_); rintro e w9 ⟨rfl, hb⟩; have B9 := hid (B6.out.trans (hb.mono B6.out.size)); clear hb)
       | fail)
      go_ret
      exact ⟨rfl, B9.out⟩
     ·subst hr hg
      rw [hw] at HW
      clear hw HX
      go_upto_region 8 with (first
       | (refine load_mid_g (by first | rfl | (simp only [*]; rfl)) 34 _ rfl w1.heap.size 0 rfl (ecs (E.wc C) (a.wc x)) _ P5.out.range Tryz.underlying34 rfl size34 ?_)
       | (go_at_call 21; (with_reducible refine (HW.out _ HZF.out K5.out B5.out).mono ?_); rintro e w6 ⟨rfl, hb⟩; have B6 := hid (B5.out.trans (hb.mono B5.out.size)); have X6 := hid (X5.out.below hb); have P6 := hid (P5.out.below hb); have K6 := hid (K5.out.below hb); have G6 := hid (G5.out.below hb); have R6 := hid (R5.out.below hb); clear hb HW)
       | fail)
      clear G5 R5 B5 X5 P5 K5 P6 K6 HT
      have HT := hid (HL.out.below B6.out)
      have G5 := G6
      have R5 := R6
      have B5 := B6
      have X5 := X6
      clear G6 R6 B6 X6
      generalize w6 = w5 at *
      refine wp_region_held_drew (S := (fun y => Below w5.heap.size w5 y)) (by kernel_rfl) ((Below.refl w5.heap.size w5).drew) (fun hH0 => ?_)
      generalize hy0 : World.drew _ = y0 at hH0 ⊢
      have RB0 : Hid (Below w5.heap.size w5 y0) := hid hH0
      clear hy0
      refine mvA 0 (v := ?hv33) rfl ?hy33 ?hr33
      case hy33 => (intro w hSw; (try dsimp only at hSw); go_simp; (try with_reducible rfl))
      try simp only [Act.put, lsA, ls0, ls1]
      refine mvA 1 (v := ?hv34) rfl ?hy34 ?hr34
      case hy34 => (intro w hSw; (try dsimp only at hSw); go_simp; (try with_reducible rfl))
      try simp only [Act.put, lsA, ls0, ls1]
      refine mvA 2 (v := ?hv35) rfl ?hy35 ?hr35
      case hy35 => (intro w hSw; (try dsimp only at hSw); go_simp; (try with_reducible rfl))
      try simp only [Act.put, lsA, ls0, ls1]
      refine mvY 3 (v := .agg (ecs (strE E) b2).toArray) rfl (yieldsIf_load_mid (by first | rfl | (simp only [*]; rfl)) 34 _ rfl w2.heap.size 0 rfl (ecs (strE E) b2) _ (fun w0 hw0 => (G5.out.below hw0).range) Tryz.underlying34 rfl size34) ?_
      try simp only [Act.put, lsA, ls0, ls1]
      refine mvY 4 (v := .agg (ecs E a).toArray) rfl (yieldsIf_load_mid (by first | rfl | (simp only [*]; rfl)) 34 _ rfl w.heap.size 0 rfl (ecs E a) _ (fun w0 hw0 => (X5.out.below hw0).range) Tryz.underlying34 rfl size34) ?_
      try simp only [Act.put, lsA, ls0, ls1]
      refine mvR 5 rfl (fun KK hKK => ?_)
      go_simp
      (with_reducible refine (HST.out _ HZ.out (B5.out.trans (RB0.out.mono B5.out.size))).mono ?_)
      rintro e0 y1 ⟨b7, rfl, hi, hb, hn⟩
      have RB1 := hid (RB0.out.trans (hb.mono RB0.out.size))
      have I7 := hid hi
      clear hi hn
      clear hb
      refine hKK.out _ _ (RB1.out) (fun hH1 => ?_)
      clear hKK KK
      try simp only [Act.put, lsA, ls0, ls1]
      refine mvR 6 rfl (fun KK hKK => ?_)
      go_simp
      (with_reducible refine (rsame24t (strE E) b2 b7 _ (R5.out.below RB1.out) I7.out).mono ?_)
      rintro e0 y2 ⟨rfl, hb⟩
      have RB2 := hid (RB1.out.trans (hb.mono RB1.out.size))
      clear I7
      clear hb
      refine hKK.out _ _ (RB2.out) (fun hH2 => ?_)
      clear hKK KK
      try simp only [Act.put, lsA, ls0, ls1]
      refine mvA 7 (v := ?hv36) rfl ?hy36 ?hr36
      case hy36 => (intro w hSw; (try dsimp only at hSw); go_simp; (try with_reducible rfl))
      try simp only [Act.put, lsA, ls0, ls1]
      refine mvA 8 (v := ?hv37) rfl ?hy37 ?hr37
      case hy37 => (intro w hSw; (try dsimp only at hSw); go_simp; (try with_reducible rfl))
      try simp only [Act.put, lsA, ls0, ls1]
      refine mvR 9 rfl (fun KK hKK => ?_)
      go_simp
      (with_reducible refine (lives14 _ (HT.out.below RB2.out)).mono ?_)
      rintro e0 y3 ⟨rfl, hb⟩
      have RB3 := hid (RB2.out.trans (hb.mono RB2.out.size))
      clear hb
      refine hKK.out _ _ (RB3.out) (fun hH3 => ?_)
      clear hKK KK
      try simp only [Act.put, lsA, ls0, ls1]
      refine mvA 10 (v := ?hv38) rfl ?hy38 ?hr38
      case hy38 => (intro w hSw; (try dsimp only at hSw); go_simp; (try with_reducible rfl))
      try simp only [Act.put, lsA, ls0, ls1]
      refine mvA 11 (v := ?hv39) rfl ?hy39 ?hr39
      case hy39 => (intro w hSw; (try dsimp only at hSw); go_simp; (try with_reducible rfl))
      try simp only [Act.put, lsA, ls0, ls1]
      refine wpAnyH_done (by kernel_rfl) ?_ _
      go_wp2
      go_ret
      exact ⟨rfl, B5.out.trans (RB3.out.mono B5.out.size)⟩
end Go.Proofs.YtablocpcgknmaaaGreatDoor
