/- The reference of Same: further leaves. No condition. -/
import Derived.Test.YtablocpcgknmaaaGreatDoorQV6
import Derived.Test.YtablocpcgknmaaaGreatDoorQK37
namespace Go.Proofs.YtablocpcgknmaaaGreatDoor
open Go.Lib (hid)
open Go Go.RowKit
set_option linter.unusedVariables false
set_option linter.unusedSimpArgs false
set_option maxRecDepth 100000

set_option maxHeartbeats 32000000 in
theorem rs9 (E F : Ew) (a b : Aw) (w : World) (h : IsE w E a) (h' : IsE w F b) (e0 : (E.id == F.id) = true) (e1 : (E.rm.toList == F.rm.toList) = true) (e2 : (E.sd.toList == F.sd.toList) = true) (e3 : (E.kd == F.kd) = true) (e4 : (E.st == F.st) = true) (e5 : (E.ky.toList == F.ky.toList) = true) (e6 : (E.tm == F.tm) = true) (e7 : (E.dp == F.dp) = true) (e8 : decide (E.pv = F.pv) = true) (e9 : decide (E.au = F.au) = false) : Calls Tryz.prog 24 #[.agg (ecs E a).toArray, .agg (ecs F b).toArray] w fun e w' => e = .returned (.bool false) ∧ Below w.heap.size w w' := by
 have BA := hid (((Below.refl w.heap.size w).alloc (Nat.le_refl _) (.cells (ecs E a).toArray 34)).alloc (by simp) (.cells (ecs F b).toArray 34))
 have X0 := hid ((blk_new w (ecs E a) 34).alloc (.cells (ecs F b).toArray 34))
 have Y0 := hid (blk_new2 w (.cells (ecs E a).toArray 34) (ecs F b) 34)
 have HP := hid (fun y (hb : Below w.heap.size w y) => same55 a.pA E.pv.length a.pC E.pv b.pA F.pv.length b.pC F.pv y (h.pv.below hb) (h'.pv.below hb) true e8)
 clear e8
 have HA := hid (fun y (hb : Below w.heap.size w y) => same55 a.qA E.au.length a.qC E.au b.qA F.au.length b.qC F.au y (h.au.below hb) (h'.au.below hb) false e9)
 clear e9
 clear h h'
 generalize hW0 : (w.alloc (.cells (ecs E a).toArray 34)).alloc (.cells (ecs F b).toArray 34) = W0 at BA X0 Y0
 dsimp only [ecs] at hW0 X0 Y0 ⊢
 have p0 := X0.out.cell (i := 0) rfl
 have q0 := Y0.out.cell (i := 0) rfl
 have p1 := X0.out.cell (i := 1) rfl
 have q1 := Y0.out.cell (i := 1) rfl
 have p2 := X0.out.cell (i := 2) rfl
 have q2 := Y0.out.cell (i := 2) rfl
 have p3 := X0.out.cell (i := 3) rfl
 have q3 := Y0.out.cell (i := 3) rfl
 have p4 := X0.out.cell (i := 4) rfl
 have q4 := Y0.out.cell (i := 4) rfl
 have p5 := X0.out.cell (i := 5) rfl
 have q5 := Y0.out.cell (i := 5) rfl
 have p6 := X0.out.cell (i := 6) rfl
 have q6 := Y0.out.cell (i := 6) rfl
 have p7 := X0.out.cell (i := 7) rfl
 have q7 := Y0.out.cell (i := 7) rfl
 have p8 := X0.out.cell (i := 8) rfl
 have q8 := Y0.out.cell (i := 8) rfl
 go_enter Tryz.func24, Tryz.ntmps24
 go_wp2_with (first
  | (go_at_call 55; (with_reducible refine (HP.out W0 BA.out).mono ?_); rintro e w1 ⟨rfl, hb⟩; have B1 := hid (BA.out.trans (hb.mono BA.out.size)); have X1 := hid (X0.out.below hb); have Y1 := hid (Y0.out.below hb); clear hb p0 q0 p1 q1 p2 q2 p3 q3 p4 q4 p5 q5 p6 q6 p7 q7 p8 q8; have p9 := X1.out.cell (i := 9) rfl; have q9 := Y1.out.cell (i := 9) rfl)
  | (go_at_call 55; (with_reducible refine (HA.out w1 B1.out).mono ?_); rintro e w2 ⟨rfl, hb⟩; have B2 := hid (B1.out.trans (hb.mono B1.out.size)); have X2 := hid (X1.out.below hb); have Y2 := hid (Y1.out.below hb); clear hb p9 q9)
  | fail)
 go_ret
 exact ⟨rfl, B2.out⟩
set_option maxHeartbeats 32000000 in
theorem rs10 (E F : Ew) (a b : Aw) (w : World) (h : IsE w E a) (h' : IsE w F b) (e0 : (E.id == F.id) = true) (e1 : (E.rm.toList == F.rm.toList) = true) (e2 : (E.sd.toList == F.sd.toList) = true) (e3 : (E.kd == F.kd) = true) (e4 : (E.st == F.st) = true) (e5 : (E.ky.toList == F.ky.toList) = true) (e6 : (E.tm == F.tm) = true) (e7 : (E.dp == F.dp) = true) (e8 : decide (E.pv = F.pv) = true) (e9 : decide (E.au = F.au) = true) (e10 : sameC E.c F.c = false) : Calls Tryz.prog 24 #[.agg (ecs E a).toArray, .agg (ecs F b).toArray] w fun e w' => e = .returned (.bool false) ∧ Below w.heap.size w w' := by
 have BA := hid (((Below.refl w.heap.size w).alloc (Nat.le_refl _) (.cells (ecs E a).toArray 34)).alloc (by simp) (.cells (ecs F b).toArray 34))
 have X0 := hid ((blk_new w (ecs E a) 34).alloc (.cells (ecs F b).toArray 34))
 have Y0 := hid (blk_new2 w (.cells (ecs E a).toArray 34) (ecs F b) 34)
 have HP := hid (fun y (hb : Below w.heap.size w y) => same55 a.pA E.pv.length a.pC E.pv b.pA F.pv.length b.pC F.pv y (h.pv.below hb) (h'.pv.below hb) true e8)
 clear e8
 have HA := hid (fun y (hb : Below w.heap.size w y) => same55 a.qA E.au.length a.qC E.au b.qA F.au.length b.qC F.au y (h.au.below hb) (h'.au.below hb) true e9)
 clear e9
 have HC := hid (fun y (hb : Below w.heap.size w y) => same23 E.c F.c a.c b.c y (h.c.below hb) (h'.c.below hb))
 simp only [e10] at HC
 clear e10
 clear h h'
 generalize hW0 : (w.alloc (.cells (ecs E a).toArray 34)).alloc (.cells (ecs F b).toArray 34) = W0 at BA X0 Y0
 dsimp only [ecs] at hW0 X0 Y0 ⊢
 have p0 := X0.out.cell (i := 0) rfl
 have q0 := Y0.out.cell (i := 0) rfl
 have p1 := X0.out.cell (i := 1) rfl
 have q1 := Y0.out.cell (i := 1) rfl
 have p2 := X0.out.cell (i := 2) rfl
 have q2 := Y0.out.cell (i := 2) rfl
 have p3 := X0.out.cell (i := 3) rfl
 have q3 := Y0.out.cell (i := 3) rfl
 have p4 := X0.out.cell (i := 4) rfl
 have q4 := Y0.out.cell (i := 4) rfl
 have p5 := X0.out.cell (i := 5) rfl
 have q5 := Y0.out.cell (i := 5) rfl
 have p6 := X0.out.cell (i := 6) rfl
 have q6 := Y0.out.cell (i := 6) rfl
 have p7 := X0.out.cell (i := 7) rfl
 have q7 := Y0.out.cell (i := 7) rfl
 have p8 := X0.out.cell (i := 8) rfl
 have q8 := Y0.out.cell (i := 8) rfl
 go_enter Tryz.func24, Tryz.ntmps24
 go_wp2_with (first
  | (go_at_call 55; (with_reducible refine (HP.out W0 BA.out).mono ?_); rintro e w1 ⟨rfl, hb⟩; have B1 := hid (BA.out.trans (hb.mono BA.out.size)); have X1 := hid (X0.out.below hb); have Y1 := hid (Y0.out.below hb); clear hb p0 q0 p1 q1 p2 q2 p3 q3 p4 q4 p5 q5 p6 q6 p7 q7 p8 q8; have p9 := X1.out.cell (i := 9) rfl; have q9 := Y1.out.cell (i := 9) rfl)
  | (go_at_call 55; (with_reducible refine (HA.out w1 B1.out).mono ?_); rintro e w2 ⟨rfl, hb⟩; have B2 := hid (B1.out.trans (hb.mono B1.out.size)); have X2 := hid (X1.out.below hb); have Y2 := hid (Y1.out.below hb); clear hb p9 q9)
  | (refine load_mid_g (by rfl) 30 _ rfl w.heap.size 10 rfl (ccs E.c a.c) _ (X2.out.mid 10 16) Tryz.underlying30 rfl size29 ?_)
  | (refine load_mid_g (by rfl) 30 _ rfl (w.heap.size + 1) 10 rfl (ccs F.c b.c) _ (Y2.out.mid 10 16) Tryz.underlying30 rfl size29 ?_)
  | (go_at_call 35; (with_reducible refine (HC.out w2 B2.out).mono ?_); rintro e w3 ⟨rfl, hb⟩; have B3 := hid (B2.out.trans (hb.mono B2.out.size)); have X3 := hid (X2.out.below hb); have Y3 := hid (Y2.out.below hb); clear hb )
  | fail)
 go_ret
 exact ⟨rfl, B3.out⟩
set_option maxHeartbeats 32000000 in
theorem rs11 (E F : Ew) (a b : Aw) (w : World) (h : IsE w E a) (h' : IsE w F b) (e0 : (E.id == F.id) = true) (e1 : (E.rm.toList == F.rm.toList) = true) (e2 : (E.sd.toList == F.sd.toList) = true) (e3 : (E.kd == F.kd) = true) (e4 : (E.st == F.st) = true) (e5 : (E.ky.toList == F.ky.toList) = true) (e6 : (E.tm == F.tm) = true) (e7 : (E.dp == F.dp) = true) (e8 : decide (E.pv = F.pv) = true) (e9 : decide (E.au = F.au) = true) (e10 : sameC E.c F.c = true) (e11 : (E.hs == F.hs) = false) : Calls Tryz.prog 24 #[.agg (ecs E a).toArray, .agg (ecs F b).toArray] w fun e w' => e = .returned (.bool false) ∧ Below w.heap.size w w' := by
 have BA := hid (((Below.refl w.heap.size w).alloc (Nat.le_refl _) (.cells (ecs E a).toArray 34)).alloc (by simp) (.cells (ecs F b).toArray 34))
 have X0 := hid ((blk_new w (ecs E a) 34).alloc (.cells (ecs F b).toArray 34))
 have Y0 := hid (blk_new2 w (.cells (ecs E a).toArray 34) (ecs F b) 34)
 have HP := hid (fun y (hb : Below w.heap.size w y) => same55 a.pA E.pv.length a.pC E.pv b.pA F.pv.length b.pC F.pv y (h.pv.below hb) (h'.pv.below hb) true e8)
 clear e8
 have HA := hid (fun y (hb : Below w.heap.size w y) => same55 a.qA E.au.length a.qC E.au b.qA F.au.length b.qC F.au y (h.au.below hb) (h'.au.below hb) true e9)
 clear e9
 have HC := hid (fun y (hb : Below w.heap.size w y) => same23 E.c F.c a.c b.c y (h.c.below hb) (h'.c.below hb))
 simp only [e10] at HC
 clear e10
 clear h h'
 generalize hW0 : (w.alloc (.cells (ecs E a).toArray 34)).alloc (.cells (ecs F b).toArray 34) = W0 at BA X0 Y0
 dsimp only [ecs] at hW0 X0 Y0 ⊢
 have p0 := X0.out.cell (i := 0) rfl
 have q0 := Y0.out.cell (i := 0) rfl
 have p1 := X0.out.cell (i := 1) rfl
 have q1 := Y0.out.cell (i := 1) rfl
 have p2 := X0.out.cell (i := 2) rfl
 have q2 := Y0.out.cell (i := 2) rfl
 have p3 := X0.out.cell (i := 3) rfl
 have q3 := Y0.out.cell (i := 3) rfl
 have p4 := X0.out.cell (i := 4) rfl
 have q4 := Y0.out.cell (i := 4) rfl
 have p5 := X0.out.cell (i := 5) rfl
 have q5 := Y0.out.cell (i := 5) rfl
 have p6 := X0.out.cell (i := 6) rfl
 have q6 := Y0.out.cell (i := 6) rfl
 have p7 := X0.out.cell (i := 7) rfl
 have q7 := Y0.out.cell (i := 7) rfl
 have p8 := X0.out.cell (i := 8) rfl
 have q8 := Y0.out.cell (i := 8) rfl
 go_enter Tryz.func24, Tryz.ntmps24
 go_wp2_with (first
  | (go_at_call 55; (with_reducible refine (HP.out W0 BA.out).mono ?_); rintro e w1 ⟨rfl, hb⟩; have B1 := hid (BA.out.trans (hb.mono BA.out.size)); have X1 := hid (X0.out.below hb); have Y1 := hid (Y0.out.below hb); clear hb p0 q0 p1 q1 p2 q2 p3 q3 p4 q4 p5 q5 p6 q6 p7 q7 p8 q8; have p9 := X1.out.cell (i := 9) rfl; have q9 := Y1.out.cell (i := 9) rfl)
  | (go_at_call 55; (with_reducible refine (HA.out w1 B1.out).mono ?_); rintro e w2 ⟨rfl, hb⟩; have B2 := hid (B1.out.trans (hb.mono B1.out.size)); have X2 := hid (X1.out.below hb); have Y2 := hid (Y1.out.below hb); clear hb p9 q9)
  | (refine load_mid_g (by rfl) 30 _ rfl w.heap.size 10 rfl (ccs E.c a.c) _ (X2.out.mid 10 16) Tryz.underlying30 rfl size29 ?_)
  | (refine load_mid_g (by rfl) 30 _ rfl (w.heap.size + 1) 10 rfl (ccs F.c b.c) _ (Y2.out.mid 10 16) Tryz.underlying30 rfl size29 ?_)
  | (go_at_call 35; (with_reducible refine (HC.out w2 B2.out).mono ?_); rintro e w3 ⟨rfl, hb⟩; have B3 := hid (B2.out.trans (hb.mono B2.out.size)); have X3 := hid (X2.out.below hb); have Y3 := hid (Y2.out.below hb); clear hb ; have p26 := X3.out.cell (i := 26) rfl; have q26 := Y3.out.cell (i := 26) rfl)
  | fail)
 go_ret
 exact ⟨rfl, B3.out⟩
end Go.Proofs.YtablocpcgknmaaaGreatDoor
