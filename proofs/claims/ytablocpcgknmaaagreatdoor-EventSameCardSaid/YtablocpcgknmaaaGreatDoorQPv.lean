/- The reference of Same: the last leaves. No condition. -/
import Derived.Test.YtablocpcgknmaaaGreatDoorQV6
import Derived.Test.YtablocpcgknmaaaGreatDoorQK37
import Derived.Test.YtablocpcgknmaaaGreatDoorQV7A
import Derived.Test.YtablocpcgknmaaaGreatDoorQV7B
namespace Go.Proofs.YtablocpcgknmaaaGreatDoor
open Go.Lib (hid)
open Go Go.RowKit
set_option linter.unusedVariables false
set_option linter.unusedSimpArgs false
set_option maxRecDepth 100000

set_option maxHeartbeats 32000000 in
theorem rs12 (E F : Ew) (a b : Aw) (w : World) (h : IsE w E a) (h' : IsE w F b) (e0 : (E.id == F.id) = true) (e1 : (E.rm.toList == F.rm.toList) = true) (e2 : (E.sd.toList == F.sd.toList) = true) (e3 : (E.kd == F.kd) = true) (e4 : (E.st == F.st) = true) (e5 : (E.ky.toList == F.ky.toList) = true) (e6 : (E.tm == F.tm) = true) (e7 : (E.dp == F.dp) = true) (e8 : decide (E.pv = F.pv) = true) (e9 : decide (E.au = F.au) = true) (e10 : sameC E.c F.c = true) (e11 : (E.hs == F.hs) = true) (e12 : (E.sv.toList == F.sv.toList) = false) : Calls Tryz.prog 24 #[.agg (ecs E a).toArray, .agg (ecs F b).toArray] w fun e w' => e = .returned (.bool false) ∧ Below w.heap.size w w' := by
 have BA := hid (((Below.refl w.heap.size w).alloc (Nat.le_refl _) (.cells (ecs E a).toArray 34)).alloc (by simp) (.cells (ecs F b).toArray 34))
 have X0 := hid ((blk_new w (ecs E a) 34).alloc (.cells (ecs F b).toArray 34))
 have Y0 := hid (blk_new2 w (.cells (ecs E a).toArray 34) (ecs F b) 34)
 have HP := hid (fun y (hb : Below w.heap.size w y) => same55 a.pA E.pv.length a.pC E.pv b.pA F.pv.length b.pC F.pv y (h.pv.below hb) (h'.pv.below hb) true e8)
 clear e8
 have HA := hid (fun y (hb : Below w.heap.size w y) => same55 a.qA E.au.length a.qC E.au b.qA F.au.length b.qC F.au y (h.au.below hb) (h'.au.below hb) true e9)
 clear e9
 have HC := hid (fun y (hb : Below w.heap.size w y) => same23 E.c F.c a.c b.c y (h.c.below hb) (h'.c.below hb))
 simp only [e10] at HC
 clear e10
 clear h h'
 generalize hW0 : (w.alloc (.cells (ecs E a).toArray 34)).alloc (.cells (ecs F b).toArray 34) = W0 at BA X0 Y0
 dsimp only [ecs] at hW0 X0 Y0 ⊢
 have p0 := X0.out.cell (i := 0) rfl
 have q0 := Y0.out.cell (i := 0) rfl
 have p1 := X0.out.cell (i := 1) rfl
 have q1 := Y0.out.cell (i := 1) rfl
 have p2 := X0.out.cell (i := 2) rfl
 have q2 := Y0.out.cell (i := 2) rfl
 have p3 := X0.out.cell (i := 3) rfl
 have q3 := Y0.out.cell (i := 3) rfl
 have p4 := X0.out.cell (i := 4) rfl
 have q4 := Y0.out.cell (i := 4) rfl
 have p5 := X0.out.cell (i := 5) rfl
 have q5 := Y0.out.cell (i := 5) rfl
 have p6 := X0.out.cell (i := 6) rfl
 have q6 := Y0.out.cell (i := 6) rfl
 have p7 := X0.out.cell (i := 7) rfl
 have q7 := Y0.out.cell (i := 7) rfl
 have p8 := X0.out.cell (i := 8) rfl
 have q8 := Y0.out.cell (i := 8) rfl
 go_enter Tryz.func24, Tryz.ntmps24
 go_wp2_with (first
  | (go_at_call 55; (with_reducible refine (HP.out W0 BA.out).mono ?_); rintro e w1 ⟨rfl, hb⟩; have B1 := hid (BA.out.trans (hb.mono BA.out.size)); have X1 := hid (X0.out.below hb); have Y1 := hid (Y0.out.below hb); clear hb p0 q0 p1 q1 p2 q2 p3 q3 p4 q4 p5 q5 p6 q6 p7 q7 p8 q8; have p9 := X1.out.cell (i := 9) rfl; have q9 := Y1.out.cell (i := 9) rfl)
  | (go_at_call 55; (with_reducible refine (HA.out w1 B1.out).mono ?_); rintro e w2 ⟨rfl, hb⟩; have B2 := hid (B1.out.trans (hb.mono B1.out.size)); have X2 := hid (X1.out.below hb); have Y2 := hid (Y1.out.below hb); clear hb p9 q9)
  | (refine load_mid_g (by rfl) 30 _ rfl w.heap.size 10 rfl (ccs E.c a.c) _ (X2.out.mid 10 16) Tryz.underlying30 rfl size29 ?_)
  | (refine load_mid_g (by rfl) 30 _ rfl (w.heap.size + 1) 10 rfl (ccs F.c b.c) _ (Y2.out.mid 10 16) Tryz.underlying30 rfl size29 ?_)
  | (go_at_call 35; (with_reducible refine (HC.out w2 B2.out).mono ?_); rintro e w3 ⟨rfl, hb⟩; have B3 := hid (B2.out.trans (hb.mono B2.out.size)); have X3 := hid (X2.out.below hb); have Y3 := hid (Y2.out.below hb); clear hb ; have p26 := X3.out.cell (i := 26) rfl; have q26 := Y3.out.cell (i := 26) rfl; have p27 := X3.out.cell (i := 27) rfl; have q27 := Y3.out.cell (i := 27) rfl)
  | fail)
 go_ret
 exact ⟨rfl, B3.out⟩
set_option maxHeartbeats 32000000 in
theorem rs13 (E F : Ew) (a b : Aw) (w : World) (h : IsE w E a) (h' : IsE w F b) (e0 : (E.id == F.id) = true) (e1 : (E.rm.toList == F.rm.toList) = true) (e2 : (E.sd.toList == F.sd.toList) = true) (e3 : (E.kd == F.kd) = true) (e4 : (E.st == F.st) = true) (e5 : (E.ky.toList == F.ky.toList) = true) (e6 : (E.tm == F.tm) = true) (e7 : (E.dp == F.dp) = true) (e8 : decide (E.pv = F.pv) = true) (e9 : decide (E.au = F.au) = true) (e10 : sameC E.c F.c = true) (e11 : (E.hs == F.hs) = true) (e12 : (E.sv.toList == F.sv.toList) = true) (e13 : (E.sm == F.sm) = false) : Calls Tryz.prog 24 #[.agg (ecs E a).toArray, .agg (ecs F b).toArray] w fun e w' => e = .returned (.bool false) ∧ Below w.heap.size w w' := by
 have BA := hid (((Below.refl w.heap.size w).alloc (Nat.le_refl _) (.cells (ecs E a).toArray 34)).alloc (by simp) (.cells (ecs F b).toArray 34))
 have X0 := hid ((blk_new w (ecs E a) 34).alloc (.cells (ecs F b).toArray 34))
 have Y0 := hid (blk_new2 w (.cells (ecs E a).toArray 34) (ecs F b) 34)
 have HP := hid (fun y (hb : Below w.heap.size w y) => same55 a.pA E.pv.length a.pC E.pv b.pA F.pv.length b.pC F.pv y (h.pv.below hb) (h'.pv.below hb) true e8)
 clear e8
 have HA := hid (fun y (hb : Below w.heap.size w y) => same55 a.qA E.au.length a.qC E.au b.qA F.au.length b.qC F.au y (h.au.below hb) (h'.au.below hb) true e9)
 clear e9
 have HC := hid (fun y (hb : Below w.heap.size w y) => same23 E.c F.c a.c b.c y (h.c.below hb) (h'.c.below hb))
 simp only [e10] at HC
 clear e10
 clear h h'
 generalize hW0 : (w.alloc (.cells (ecs E a).toArray 34)).alloc (.cells (ecs F b).toArray 34) = W0 at BA X0 Y0
 dsimp only [ecs] at hW0 X0 Y0 ⊢
 have p0 := X0.out.cell (i := 0) rfl
 have q0 := Y0.out.cell (i := 0) rfl
 have p1 := X0.out.cell (i := 1) rfl
 have q1 := Y0.out.cell (i := 1) rfl
 have p2 := X0.out.cell (i := 2) rfl
 have q2 := Y0.out.cell (i := 2) rfl
 have p3 := X0.out.cell (i := 3) rfl
 have q3 := Y0.out.cell (i := 3) rfl
 have p4 := X0.out.cell (i := 4) rfl
 have q4 := Y0.out.cell (i := 4) rfl
 have p5 := X0.out.cell (i := 5) rfl
 have q5 := Y0.out.cell (i := 5) rfl
 have p6 := X0.out.cell (i := 6) rfl
 have q6 := Y0.out.cell (i := 6) rfl
 have p7 := X0.out.cell (i := 7) rfl
 have q7 := Y0.out.cell (i := 7) rfl
 have p8 := X0.out.cell (i := 8) rfl
 have q8 := Y0.out.cell (i := 8) rfl
 go_enter Tryz.func24, Tryz.ntmps24
 go_wp2_with (first
  | (go_at_call 55; (with_reducible refine (HP.out W0 BA.out).mono ?_); rintro e w1 ⟨rfl, hb⟩; have B1 := hid (BA.out.trans (hb.mono BA.out.size)); have X1 := hid (X0.out.below hb); have Y1 := hid (Y0.out.below hb); clear hb p0 q0 p1 q1 p2 q2 p3 q3 p4 q4 p5 q5 p6 q6 p7 q7 p8 q8; have p9 := X1.out.cell (i := 9) rfl; have q9 := Y1.out.cell (i := 9) rfl)
  | (go_at_call 55; (with_reducible refine (HA.out w1 B1.out).mono ?_); rintro e w2 ⟨rfl, hb⟩; have B2 := hid (B1.out.trans (hb.mono B1.out.size)); have X2 := hid (X1.out.below hb); have Y2 := hid (Y1.out.below hb); clear hb p9 q9)
  | (refine load_mid_g (by rfl) 30 _ rfl w.heap.size 10 rfl (ccs E.c a.c) _ (X2.out.mid 10 16) Tryz.underlying30 rfl size29 ?_)
  | (refine load_mid_g (by rfl) 30 _ rfl (w.heap.size + 1) 10 rfl (ccs F.c b.c) _ (Y2.out.mid 10 16) Tryz.underlying30 rfl size29 ?_)
  | (go_at_call 35; (with_reducible refine (HC.out w2 B2.out).mono ?_); rintro e w3 ⟨rfl, hb⟩; have B3 := hid (B2.out.trans (hb.mono B2.out.size)); have X3 := hid (X2.out.below hb); have Y3 := hid (Y2.out.below hb); clear hb ; have p26 := X3.out.cell (i := 26) rfl; have q26 := Y3.out.cell (i := 26) rfl; have p27 := X3.out.cell (i := 27) rfl; have q27 := Y3.out.cell (i := 27) rfl; have p28 := X3.out.cell (i := 28) rfl; have q28 := Y3.out.cell (i := 28) rfl)
  | fail)
 go_ret
 exact ⟨rfl, B3.out⟩
set_option maxHeartbeats 32000000 in
theorem rsT (E F : Ew) (a b : Aw) (w : World) (h : IsE w E a) (h' : IsE w F b) (e0 : (E.id == F.id) = true) (e1 : (E.rm.toList == F.rm.toList) = true) (e2 : (E.sd.toList == F.sd.toList) = true) (e3 : (E.kd == F.kd) = true) (e4 : (E.st == F.st) = true) (e5 : (E.ky.toList == F.ky.toList) = true) (e6 : (E.tm == F.tm) = true) (e7 : (E.dp == F.dp) = true) (e8 : decide (E.pv = F.pv) = true) (e9 : decide (E.au = F.au) = true) (e10 : sameC E.c F.c = true) (e11 : (E.hs == F.hs) = true) (e12 : (E.sv.toList == F.sv.toList) = true) (e13 : (E.sm == F.sm) = true) : Calls Tryz.prog 24 #[.agg (ecs E a).toArray, .agg (ecs F b).toArray] w fun e w' => e = .returned (.bool true) ∧ Below w.heap.size w w' := by
 have BA := hid (((Below.refl w.heap.size w).alloc (Nat.le_refl _) (.cells (ecs E a).toArray 34)).alloc (by simp) (.cells (ecs F b).toArray 34))
 have X0 := hid ((blk_new w (ecs E a) 34).alloc (.cells (ecs F b).toArray 34))
 have Y0 := hid (blk_new2 w (.cells (ecs E a).toArray 34) (ecs F b) 34)
 have HP := hid (fun y (hb : Below w.heap.size w y) => same55 a.pA E.pv.length a.pC E.pv b.pA F.pv.length b.pC F.pv y (h.pv.below hb) (h'.pv.below hb) true e8)
 clear e8
 have HA := hid (fun y (hb : Below w.heap.size w y) => same55 a.qA E.au.length a.qC E.au b.qA F.au.length b.qC F.au y (h.au.below hb) (h'.au.below hb) true e9)
 clear e9
 have HC := hid (fun y (hb : Below w.heap.size w y) => same23 E.c F.c a.c b.c y (h.c.below hb) (h'.c.below hb))
 simp only [e10] at HC
 clear e10
 clear h h'
 generalize hW0 : (w.alloc (.cells (ecs E a).toArray 34)).alloc (.cells (ecs F b).toArray 34) = W0 at BA X0 Y0
 dsimp only [ecs] at hW0 X0 Y0 ⊢
 have p0 := X0.out.cell (i := 0) rfl
 have q0 := Y0.out.cell (i := 0) rfl
 have p1 := X0.out.cell (i := 1) rfl
 have q1 := Y0.out.cell (i := 1) rfl
 have p2 := X0.out.cell (i := 2) rfl
 have q2 := Y0.out.cell (i := 2) rfl
 have p3 := X0.out.cell (i := 3) rfl
 have q3 := Y0.out.cell (i := 3) rfl
 have p4 := X0.out.cell (i := 4) rfl
 have q4 := Y0.out.cell (i := 4) rfl
 have p5 := X0.out.cell (i := 5) rfl
 have q5 := Y0.out.cell (i := 5) rfl
 have p6 := X0.out.cell (i := 6) rfl
 have q6 := Y0.out.cell (i := 6) rfl
 have p7 := X0.out.cell (i := 7) rfl
 have q7 := Y0.out.cell (i := 7) rfl
 have p8 := X0.out.cell (i := 8) rfl
 have q8 := Y0.out.cell (i := 8) rfl
 go_enter Tryz.func24, Tryz.ntmps24
 go_wp2_with (first
  | (go_at_call 55; (with_reducible refine (HP.out W0 BA.out).mono ?_); rintro e w1 ⟨rfl, hb⟩; have B1 := hid (BA.out.trans (hb.mono BA.out.size)); have X1 := hid (X0.out.below hb); have Y1 := hid (Y0.out.below hb); clear hb p0 q0 p1 q1 p2 q2 p3 q3 p4 q4 p5 q5 p6 q6 p7 q7 p8 q8; have p9 := X1.out.cell (i := 9) rfl; have q9 := Y1.out.cell (i := 9) rfl)
  | (go_at_call 55; (with_reducible refine (HA.out w1 B1.out).mono ?_); rintro e w2 ⟨rfl, hb⟩; have B2 := hid (B1.out.trans (hb.mono B1.out.size)); have X2 := hid (X1.out.below hb); have Y2 := hid (Y1.out.below hb); clear hb p9 q9)
  | (refine load_mid_g (by rfl) 30 _ rfl w.heap.size 10 rfl (ccs E.c a.c) _ (X2.out.mid 10 16) Tryz.underlying30 rfl size29 ?_)
  | (refine load_mid_g (by rfl) 30 _ rfl (w.heap.size + 1) 10 rfl (ccs F.c b.c) _ (Y2.out.mid 10 16) Tryz.underlying30 rfl size29 ?_)
  | (go_at_call 35; (with_reducible refine (HC.out w2 B2.out).mono ?_); rintro e w3 ⟨rfl, hb⟩; have B3 := hid (B2.out.trans (hb.mono B2.out.size)); have X3 := hid (X2.out.below hb); have Y3 := hid (Y2.out.below hb); clear hb ; have p26 := X3.out.cell (i := 26) rfl; have q26 := Y3.out.cell (i := 26) rfl; have p27 := X3.out.cell (i := 27) rfl; have q27 := Y3.out.cell (i := 27) rfl; have p28 := X3.out.cell (i := 28) rfl; have q28 := Y3.out.cell (i := 28) rfl)
  | fail)
 go_ret
 exact ⟨rfl, B3.out⟩
end Go.Proofs.YtablocpcgknmaaaGreatDoor
namespace Go.Proofs.YtablocpcgknmaaaGreatDoor
open Go Go.RowKit
set_option linter.unusedVariables false
set_option linter.unusedSimpArgs false
set_option maxRecDepth 100000

/-- Whether all fields are equal. -/
def sameE (E F : Ew) : Bool := (E.id == F.id) && ((E.rm.toList == F.rm.toList) && ((E.sd.toList == F.sd.toList) && ((E.kd == F.kd) && ((E.st == F.st) && ((E.ky.toList == F.ky.toList) && ((E.tm == F.tm) && ((E.dp == F.dp) && (decide (E.pv = F.pv) && (decide (E.au = F.au) && (sameC E.c F.c && ((E.hs == F.hs) && ((E.sv.toList == F.sv.toList) && ((E.sm == F.sm))))))))))))))
theorem sameE_self (E : Ew) : sameE E E = true := by
 unfold sameE
 simp only [beq_self_eq_true, decide_true, sameC_refl, Bool.and_self]
theorem rsame24 (E F : Ew) (a b : Aw) (w : World) (h : IsE w E a) (h' : IsE w F b) : Calls Tryz.prog 24 #[.agg (ecs E a).toArray, .agg (ecs F b).toArray] w fun e w' => e = .returned (.bool (sameE E F)) ∧ Below w.heap.size w w' := by
 unfold sameE
 cases e0 : (E.id == F.id)
 ·exact rs0 E F a b w h h' e0
 cases e1 : (E.rm.toList == F.rm.toList)
 ·exact rs1 E F a b w h h' e0 e1
 cases e2 : (E.sd.toList == F.sd.toList)
 ·exact rs2 E F a b w h h' e0 e1 e2
 cases e3 : (E.kd == F.kd)
 ·exact rs3 E F a b w h h' e0 e1 e2 e3
 cases e4 : (E.st == F.st)
 ·exact rs4 E F a b w h h' e0 e1 e2 e3 e4
 cases e5 : (E.ky.toList == F.ky.toList)
 ·exact rs5 E F a b w h h' e0 e1 e2 e3 e4 e5
 cases e6 : (E.tm == F.tm)
 ·exact rs6 E F a b w h h' e0 e1 e2 e3 e4 e5 e6
 cases e7 : (E.dp == F.dp)
 ·exact rs7 E F a b w h h' e0 e1 e2 e3 e4 e5 e6 e7
 cases e8 : decide (E.pv = F.pv)
 ·exact rs8 E F a b w h h' e0 e1 e2 e3 e4 e5 e6 e7 e8
 cases e9 : decide (E.au = F.au)
 ·exact rs9 E F a b w h h' e0 e1 e2 e3 e4 e5 e6 e7 e8 e9
 cases e10 : sameC E.c F.c
 ·exact rs10 E F a b w h h' e0 e1 e2 e3 e4 e5 e6 e7 e8 e9 e10
 cases e11 : (E.hs == F.hs)
 ·exact rs11 E F a b w h h' e0 e1 e2 e3 e4 e5 e6 e7 e8 e9 e10 e11
 cases e12 : (E.sv.toList == F.sv.toList)
 ·exact rs12 E F a b w h h' e0 e1 e2 e3 e4 e5 e6 e7 e8 e9 e10 e11 e12
 cases e13 : (E.sm == F.sm)
 ·exact rs13 E F a b w h h' e0 e1 e2 e3 e4 e5 e6 e7 e8 e9 e10 e11 e12 e13
 ·exact rsT E F a b w h h' e0 e1 e2 e3 e4 e5 e6 e7 e8 e9 e10 e11 e12 e13
end Go.Proofs.YtablocpcgknmaaaGreatDoor
