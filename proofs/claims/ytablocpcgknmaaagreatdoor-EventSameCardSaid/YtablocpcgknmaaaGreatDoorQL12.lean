/- EventSame: its walk. No condition. -/
import Derived.Test.YtablocpcgknmaaaGreatDoorQPh
import Derived.Test.YtablocpcgknmaaaGreatDoorQV18
import Derived.Test.YtablocpcgknmaaaGreatDoorQPw
namespace Go.Proofs.YtablocpcgknmaaaGreatDoor
open Go.Lib (hid)
open Go Go.RowKit
set_option linter.unusedVariables false
set_option linter.unusedSimpArgs false
set_option maxRecDepth 100000

theorem beq_sym {α : Type} [BEq α] [LawfulBEq α] (x y : α) : (x == y) = (y == x) := by
 rw [Bool.eq_iff_iff, beq_iff_eq, beq_iff_eq]
 exact eq_comm
theorem dec_sym (x y : List Int) : decide (x = y) = decide (y = x) := by
 rw [Bool.eq_iff_iff, decide_eq_true_iff, decide_eq_true_iff]
 exact eq_comm
theorem sameE_comm (E F : Ew) : sameE E F = sameE F E := by
 unfold sameE
 rw [beq_sym E.id, beq_sym E.rm.toList, beq_sym E.sd.toList, beq_sym E.kd, beq_sym E.st, beq_sym E.ky.toList, beq_sym E.tm, beq_sym E.dp, dec_sym E.pv, dec_sym E.au, sameC_comm E.c, beq_sym E.hs, beq_sym E.sv.toList, beq_sym E.sm]
set_option maxHeartbeats 64000000 in
theorem same_walk (E F : Ew) (a b : Aw) (w : World) (h : IsE w E a) (h' : IsE w F b) (hl : Lt w) : Calls Tryz.prog 12 #[.agg (ecs E a).toArray, .agg (ecs F b).toArray] w fun e w' => e = .returned (.bool true) ∧ Below w.heap.size w w' := by
 have BA := hid (((Below.refl w.heap.size w).alloc (Nat.le_refl _) (.cells (ecs E a).toArray 34)).alloc (by simp) (.cells (ecs F b).toArray 34))
 have X0 := hid ((blk_new w (ecs E a) 34).alloc (.cells (ecs F b).toArray 34))
 have Y0 := hid (blk_new2 w (.cells (ecs E a).toArray 34) (ecs F b) 34)
 have HF := hid (fun y (hb : Below w.heap.size w y) => small13 E a y (h.below hb))
 have HG := hid (fun y (hb : Below w.heap.size w y) => small13 F b y (h'.below hb))
 have HH := hid h
 have HI := hid h'
 have HL := hid hl
 clear h h' hl
 generalize hW0 : (w.alloc (.cells (ecs E a).toArray 34)).alloc (.cells (ecs F b).toArray 34) = W0 at BA X0 Y0
 dsimp only [ecs] at hW0 ⊢
 go_enter Tryz.func12, Tryz.ntmps12
 go_upto_region 3 with (first
  | (refine load_mid_g (by first | rfl | (simp only [*]; rfl)) 34 _ rfl w.heap.size 0 rfl (ecs E a) _ X0.out.range Tryz.underlying34 rfl size34 ?_)
  | (refine load_mid_g (by first | rfl | (simp only [*]; rfl)) 34 _ rfl (w.heap.size + 1) 0 rfl (ecs F b) _ Y1.out.range Tryz.underlying34 rfl size34 ?_)
  | (go_at_call 13; (with_reducible refine (HF.out _ BA.out).mono ?_); rintro e w1 ⟨q, rfl, hq, hb⟩; have B1 := hid (BA.out.trans (hb.mono BA.out.size)); have X1 := hid (X0.out.below hb); have Y1 := hid (Y0.out.below hb); clear hb hq HF X0 Y0 BA; cases q)
  | (go_at_call 13; (with_reducible refine (HG.out _ B1.out).mono ?_); rintro e w2 ⟨q, rfl, hq, hb⟩; have B2 := hid (B1.out.trans (hb.mono B1.out.size)); have X2 := hid (X1.out.below hb); have Y2 := hid (Y1.out.below hb); clear hb hq HG X1 Y1 B1; cases q)
  | (go_at_call 14; (with_reducible refine (lives14 _ (HL.out.below B2.out)).mono ?_); rintro e w9 ⟨rfl, hb⟩; have B9 := hid (B2.out.trans (hb.mono B2.out.size)); clear hb)
  | (go_at_call 14; (with_reducible refine (lives14 _ (HL.out.below B1.out)).mono ?_); rintro e w9 ⟨rfl, hb⟩; have B9 := hid (B1.out.trans (hb.mono B1.out.size)); clear hb)
  | fail)
 ·go_ret
  exact ⟨rfl, B9.out⟩
 ·go_ret
  exact ⟨rfl, B9.out⟩
 ·have H40 := hid (fun y (hb : Below w2.heap.size w2 y) => same40 E F a b y (HH.out.below (B2.out.trans (hb.mono B2.out.size))) (HI.out.below (B2.out.trans (hb.mono B2.out.size))))
  have H24 := hid (fun y (hb : Below w2.heap.size w2 y) => rsame24 E F a b y (HH.out.below (B2.out.trans (hb.mono B2.out.size))) (HI.out.below (B2.out.trans (hb.mono B2.out.size))))
  have H40E := hid (fun y (hb : Below w2.heap.size w2 y) => same40 E E a a y (HH.out.below (B2.out.trans (hb.mono B2.out.size))) (HH.out.below (B2.out.trans (hb.mono B2.out.size))))
  have H40F := hid (fun y (hb : Below w2.heap.size w2 y) => same40 F E b a y (HI.out.below (B2.out.trans (hb.mono B2.out.size))) (HH.out.below (B2.out.trans (hb.mono B2.out.size))))
  rw [sameE_self] at H40E
  rw [sameE_comm F E] at H40F
  generalize sameE E F = s at H40 H24 H40F
  have e0 : (s == s) = true := by cases s <;> rfl
  have HT := hid (HL.out.below B2.out)
  clear HH HI HL
  refine wp_region_held_drew (S := (fun y => Below w2.heap.size w2 y)) (by kernel_rfl) ((Below.refl w2.heap.size w2).drew) (fun hH0 => ?_)
  generalize hy0 : World.drew _ = y0 at hH0 ⊢
  have RB0 : Hid (Below w2.heap.size w2 y0) := hid hH0
  clear hy0
  refine mvY 0 (v := .agg (ecs E a).toArray) rfl (yieldsIf_load_mid (by first | rfl | (simp only [*]; rfl)) 34 _ rfl w.heap.size 0 rfl (ecs E a) _ (fun w0 hw0 => (X2.out.below hw0).range) Tryz.underlying34 rfl size34) ?_
  try simp only [Act.put, lsA, ls0, ls1]
  refine mvY 1 (v := .agg (ecs F b).toArray) rfl (yieldsIf_load_mid (by first | rfl | (simp only [*]; rfl)) 34 _ rfl (w.heap.size + 1) 0 rfl (ecs F b) _ (fun w0 hw0 => (Y2.out.below hw0).range) Tryz.underlying34 rfl size34) ?_
  try simp only [Act.put, lsA, ls0, ls1]
  refine mvY 3 (v := .agg (ecs E a).toArray) rfl (yieldsIf_load_mid (by first | rfl | (simp only [*]; rfl)) 34 _ rfl w.heap.size 0 rfl (ecs E a) _ (fun w0 hw0 => (X2.out.below hw0).range) Tryz.underlying34 rfl size34) ?_
  try simp only [Act.put, lsA, ls0, ls1]
  refine mvY 4 (v := .agg (ecs F b).toArray) rfl (yieldsIf_load_mid (by first | rfl | (simp only [*]; rfl)) 34 _ rfl (w.heap.size + 1) 0 rfl (ecs F b) _ (fun w0 hw0 => (Y2.out.below hw0).range) Tryz.underlying34 rfl size34) ?_
  try simp only [Act.put, lsA, ls0, ls1]
  refine mvR 2 rfl (fun KK hKK => ?_)
  go_simp
  (with_reducible refine (H40.out _ RB0.out).mono ?_)
  rintro e0 y1 ⟨rfl, hb⟩
  have RB1 := hid (RB0.out.trans (hb.mono RB0.out.size))
  clear hb
  refine hKK.out _ _ (RB1.out) (fun hH1 => ?_)
  clear hKK KK
  try simp only [Act.put, lsA, ls0, ls1]
  refine mvR 5 rfl (fun KK hKK => ?_)
  go_simp
  (with_reducible refine (H24.out _ RB1.out).mono ?_)
  rintro e0 y2 ⟨rfl, hb⟩
  have RB2 := hid (RB1.out.trans (hb.mono RB1.out.size))
  clear hb
  refine hKK.out _ _ (RB2.out) (fun hH2 => ?_)
  clear hKK KK
  try simp only [Act.put, lsA, ls0, ls1]
  refine mvA 6 (v := ?hv1) rfl ?hy1 ?hr1
  case hy1 => (intro w hSw; (try dsimp only at hSw); go_simp; (try with_reducible rfl))
  try simp only [Act.put, lsA, ls0, ls1]
  refine mvA 7 (v := ?hv2) rfl ?hy2 ?hr2
  case hy2 => (intro w hSw; (try dsimp only at hSw); go_simp; (try with_reducible rfl))
  try simp only [Act.put, lsA, ls0, ls1]
  refine mvY 8 (v := .agg (ecs E a).toArray) rfl (yieldsIf_load_mid (by first | rfl | (simp only [*]; rfl)) 34 _ rfl w.heap.size 0 rfl (ecs E a) _ (fun w0 hw0 => (X2.out.below hw0).range) Tryz.underlying34 rfl size34) ?_
  try simp only [Act.put, lsA, ls0, ls1]
  refine mvY 9 (v := .agg (ecs E a).toArray) rfl (yieldsIf_load_mid (by first | rfl | (simp only [*]; rfl)) 34 _ rfl w.heap.size 0 rfl (ecs E a) _ (fun w0 hw0 => (X2.out.below hw0).range) Tryz.underlying34 rfl size34) ?_
  try simp only [Act.put, lsA, ls0, ls1]
  refine mvR 10 rfl (fun KK hKK => ?_)
  go_simp
  (with_reducible refine (H40E.out _ RB2.out).mono ?_)
  rintro e0 y3 ⟨rfl, hb⟩
  have RB3 := hid (RB2.out.trans (hb.mono RB2.out.size))
  clear hb
  refine hKK.out _ _ (RB3.out) (fun hH3 => ?_)
  clear hKK KK
  try simp only [Act.put, lsA, ls0, ls1]
  refine mvA 11 (v := ?hv3) rfl ?hy3 ?hr3
  case hy3 => (intro w hSw; (try dsimp only at hSw); go_simp; (try with_reducible rfl))
  try simp only [Act.put, lsA, ls0, ls1]
  refine mvA 12 (v := ?hv4) rfl ?hy4 ?hr4
  case hy4 => (intro w hSw; (try dsimp only at hSw); go_simp; (try with_reducible rfl))
  try simp only [Act.put, lsA, ls0, ls1]
  refine mvY 13 (v := .agg (ecs F b).toArray) rfl (yieldsIf_load_mid (by first | rfl | (simp only [*]; rfl)) 34 _ rfl (w.heap.size + 1) 0 rfl (ecs F b) _ (fun w0 hw0 => (Y2.out.below hw0).range) Tryz.underlying34 rfl size34) ?_
  try simp only [Act.put, lsA, ls0, ls1]
  refine mvY 14 (v := .agg (ecs E a).toArray) rfl (yieldsIf_load_mid (by first | rfl | (simp only [*]; rfl)) 34 _ rfl w.heap.size 0 rfl (ecs E a) _ (fun w0 hw0 => (X2.out.below hw0).range) Tryz.underlying34 rfl size34) ?_
  try simp only [Act.put, lsA, ls0, ls1]
  refine mvY 16 (v := .agg (ecs E a).toArray) rfl (yieldsIf_load_mid (by first | rfl | (simp only [*]; rfl)) 34 _ rfl w.heap.size 0 rfl (ecs E a) _ (fun w0 hw0 => (X2.out.below hw0).range) Tryz.underlying34 rfl size34) ?_
  try simp only [Act.put, lsA, ls0, ls1]
  refine mvY 17 (v := .agg (ecs F b).toArray) rfl (yieldsIf_load_mid (by first | rfl | (simp only [*]; rfl)) 34 _ rfl (w.heap.size + 1) 0 rfl (ecs F b) _ (fun w0 hw0 => (Y2.out.below hw0).range) Tryz.underlying34 rfl size34) ?_
  try simp only [Act.put, lsA, ls0, ls1]
  refine mvR 15 rfl (fun KK hKK => ?_)
  go_simp
  (with_reducible refine (H40F.out _ RB3.out).mono ?_)
  rintro e0 y4 ⟨rfl, hb⟩
  have RB4 := hid (RB3.out.trans (hb.mono RB3.out.size))
  clear hb
  refine hKK.out _ _ (RB4.out) (fun hH4 => ?_)
  clear hKK KK
  try simp only [Act.put, lsA, ls0, ls1]
  refine mvR 18 rfl (fun KK hKK => ?_)
  go_simp
  (with_reducible refine (H40.out _ RB4.out).mono ?_)
  rintro e0 y5 ⟨rfl, hb⟩
  have RB5 := hid (RB4.out.trans (hb.mono RB4.out.size))
  clear hb
  refine hKK.out _ _ (RB5.out) (fun hH5 => ?_)
  clear hKK KK
  try simp only [Act.put, lsA, ls0, ls1]
  refine mvA 19 (v := ?hv5) rfl ?hy5 ?hr5
  case hy5 => (intro w hSw; (try dsimp only at hSw); go_simp; (try with_reducible rfl))
  try simp only [Act.put, lsA, ls0, ls1]
  refine mvA 20 (v := ?hv6) rfl ?hy6 ?hr6
  case hy6 => (intro w hSw; (try dsimp only at hSw); go_simp; (try with_reducible rfl))
  try simp only [Act.put, lsA, ls0, ls1]
  refine mvA 21 (v := ?hv7) rfl ?hy7 ?hr7
  case hy7 => (intro w hSw; (try dsimp only at hSw); go_simp; (try with_reducible rfl))
  try simp only [Act.put, lsA, ls0, ls1]
  refine mvR 22 rfl (fun KK hKK => ?_)
  go_simp
  (with_reducible refine (lives14 _ (HT.out.below RB5.out)).mono ?_)
  rintro e0 y6 ⟨rfl, hb⟩
  have RB6 := hid (RB5.out.trans (hb.mono RB5.out.size))
  clear hb
  refine hKK.out _ _ (RB6.out) (fun hH6 => ?_)
  clear hKK KK
  try simp only [Act.put, lsA, ls0, ls1]
  refine mvA 23 (v := ?hv8) rfl ?hy8 ?hr8
  case hy8 => (intro w hSw; (try dsimp only at hSw); go_simp; (try with_reducible rfl))
  try simp only [Act.put, lsA, ls0, ls1]
  refine mvA 24 (v := ?hv9) rfl ?hy9 ?hr9
  case hy9 => (intro w hSw; (try dsimp only at hSw); go_simp; (try with_reducible rfl))
  try simp only [Act.put, lsA, ls0, ls1]
  refine wpAnyH_done (by kernel_rfl) ?_ _
  go_wp2
  go_ret
  exact ⟨rfl, B2.out.trans (RB6.out.mono B2.out.size)⟩
end Go.Proofs.YtablocpcgknmaaaGreatDoor
