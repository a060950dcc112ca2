/- Same and its reference at equal events. No condition. -/
import Derived.Test.YtablocpcgknmaaaGreatDoorRV6
import Derived.Test.YtablocpcgknmaaaGreatDoorRK37
namespace Go.Proofs.YtablocpcgknmaaaGreatDoor
open Go.Lib (hid)
open Go Go.RowKit
set_option linter.unusedVariables false
set_option linter.unusedSimpArgs false
set_option maxRecDepth 100000

set_option maxHeartbeats 32000000 in
theorem same40t (E : Ew) (a b : Aw) (w : World) (h : IsE w E a) (h' : IsE w E b) : Calls Tryz.prog 40 #[.agg (ecs E a).toArray, .agg (ecs E b).toArray] w fun e w' => e = .returned (.bool true) ∧ Below w.heap.size w w' := by
 have BA := hid (((Below.refl w.heap.size w).alloc (Nat.le_refl _) (.cells (ecs E a).toArray 34)).alloc (by simp) (.cells (ecs E b).toArray 34))
 have X0 := hid ((blk_new w (ecs E a) 34).alloc (.cells (ecs E b).toArray 34))
 have Y0 := hid (blk_new2 w (.cells (ecs E a).toArray 34) (ecs E b) 34)
 have HP := hid (fun y (hb : Below w.heap.size w y) => equal83 a.pA E.pv.length a.pC E.pv b.pA E.pv.length b.pC E.pv y (h.pv.below hb) (h'.pv.below hb) true (decide_eq_true rfl))
 have HA := hid (fun y (hb : Below w.heap.size w y) => equal83 a.qA E.au.length a.qC E.au b.qA E.au.length b.qC E.au y (h.au.below hb) (h'.au.below hb) true (decide_eq_true rfl))
 have HC := hid (fun y (hb : Below w.heap.size w y) => same20r E.c a.c b.c y (h.c.below hb) (h'.c.below hb))
 clear h h'
 generalize hW0 : (w.alloc (.cells (ecs E a).toArray 34)).alloc (.cells (ecs E b).toArray 34) = W0 at BA X0 Y0
 dsimp only [ecs, z29] at hW0 X0 Y0 ⊢
 have p0 := X0.out.cell (i := 0) rfl
 have q0 := Y0.out.cell (i := 0) rfl
 have p1 := X0.out.cell (i := 1) rfl
 have q1 := Y0.out.cell (i := 1) rfl
 have p2 := X0.out.cell (i := 2) rfl
 have q2 := Y0.out.cell (i := 2) rfl
 have p3 := X0.out.cell (i := 3) rfl
 have q3 := Y0.out.cell (i := 3) rfl
 have p4 := X0.out.cell (i := 4) rfl
 have q4 := Y0.out.cell (i := 4) rfl
 have p5 := X0.out.cell (i := 5) rfl
 have q5 := Y0.out.cell (i := 5) rfl
 have p6 := X0.out.cell (i := 6) rfl
 have q6 := Y0.out.cell (i := 6) rfl
 have p7 := X0.out.cell (i := 7) rfl
 have q7 := Y0.out.cell (i := 7) rfl
 have p8 := X0.out.cell (i := 8) rfl
 have q8 := Y0.out.cell (i := 8) rfl
 go_enter Tryz.func40, Tryz.ntmps40
 go_wp2_with (first
  | (go_at_call 83; (with_reducible refine (HP.out W0 BA.out).mono ?_); rintro e w1 ⟨rfl, hb⟩; have B1 := hid (BA.out.trans (hb.mono BA.out.size)); have X1 := hid (X0.out.below hb); have Y1 := hid (Y0.out.below hb); clear hb p0 q0 p1 q1 p2 q2 p3 q3 p4 q4 p5 q5 p6 q6 p7 q7 p8 q8; have p9 := X1.out.cell (i := 9) rfl; have q9 := Y1.out.cell (i := 9) rfl)
  | (go_at_call 83; (with_reducible refine (HA.out w1 B1.out).mono ?_); rintro e w2 ⟨rfl, hb⟩; have B2 := hid (B1.out.trans (hb.mono B1.out.size)); have X2 := hid (X1.out.below hb); have Y2 := hid (Y1.out.below hb); clear hb p9 q9)
  | (refine load_mid_g (by rfl) 30 _ rfl w.heap.size 10 rfl (ccs E.c a.c) _ (X2.out.mid 10 16) Tryz.underlying30 rfl size29 ?_)
  | (refine load_mid_g (by rfl) 30 _ rfl (w.heap.size + 1) 10 rfl (ccs E.c b.c) _ (Y2.out.mid 10 16) Tryz.underlying30 rfl size29 ?_)
  | (go_at_call 84; (with_reducible refine (HC.out w2 B2.out).mono ?_); rintro e w3 ⟨rfl, hb⟩; have B3 := hid (B2.out.trans (hb.mono B2.out.size)); have X3 := hid (X2.out.below hb); have Y3 := hid (Y2.out.below hb); clear hb ; have p26 := X3.out.cell (i := 26) rfl; have q26 := Y3.out.cell (i := 26) rfl; have p27 := X3.out.cell (i := 27) rfl; have q27 := Y3.out.cell (i := 27) rfl; have p28 := X3.out.cell (i := 28) rfl; have q28 := Y3.out.cell (i := 28) rfl)
  | (refine load_mid_g (by rfl) 32 _ rfl w.heap.size 27 rfl [.string E.sv, .int .i64 E.sm] _ (X3.out.mid 27 2) Tryz.underlying32 rfl size32 ?_)
  | (refine load_mid_g (by rfl) 32 _ rfl (w.heap.size + 1) 27 rfl [.string E.sv, .int .i64 E.sm] _ (Y3.out.mid 27 2) Tryz.underlying32 rfl size32 ?_)
  | fail)
 go_ret
 exact ⟨rfl, B3.out⟩
set_option maxHeartbeats 32000000 in
theorem rsame24t (E : Ew) (a b : Aw) (w : World) (h : IsE w E a) (h' : IsE w E b) : Calls Tryz.prog 24 #[.agg (ecs E a).toArray, .agg (ecs E b).toArray] w fun e w' => e = .returned (.bool true) ∧ Below w.heap.size w w' := by
 have BA := hid (((Below.refl w.heap.size w).alloc (Nat.le_refl _) (.cells (ecs E a).toArray 34)).alloc (by simp) (.cells (ecs E b).toArray 34))
 have X0 := hid ((blk_new w (ecs E a) 34).alloc (.cells (ecs E b).toArray 34))
 have Y0 := hid (blk_new2 w (.cells (ecs E a).toArray 34) (ecs E b) 34)
 have HP := hid (fun y (hb : Below w.heap.size w y) => same55 a.pA E.pv.length a.pC E.pv b.pA E.pv.length b.pC E.pv y (h.pv.below hb) (h'.pv.below hb) true (decide_eq_true rfl))
 have HA := hid (fun y (hb : Below w.heap.size w y) => same55 a.qA E.au.length a.qC E.au b.qA E.au.length b.qC E.au y (h.au.below hb) (h'.au.below hb) true (decide_eq_true rfl))
 have HC := hid (fun y (hb : Below w.heap.size w y) => same23r E.c a.c b.c y (h.c.below hb) (h'.c.below hb))
 clear h h'
 generalize hW0 : (w.alloc (.cells (ecs E a).toArray 34)).alloc (.cells (ecs E b).toArray 34) = W0 at BA X0 Y0
 dsimp only [ecs, z29] at hW0 X0 Y0 ⊢
 have p0 := X0.out.cell (i := 0) rfl
 have q0 := Y0.out.cell (i := 0) rfl
 have p1 := X0.out.cell (i := 1) rfl
 have q1 := Y0.out.cell (i := 1) rfl
 have p2 := X0.out.cell (i := 2) rfl
 have q2 := Y0.out.cell (i := 2) rfl
 have p3 := X0.out.cell (i := 3) rfl
 have q3 := Y0.out.cell (i := 3) rfl
 have p4 := X0.out.cell (i := 4) rfl
 have q4 := Y0.out.cell (i := 4) rfl
 have p5 := X0.out.cell (i := 5) rfl
 have q5 := Y0.out.cell (i := 5) rfl
 have p6 := X0.out.cell (i := 6) rfl
 have q6 := Y0.out.cell (i := 6) rfl
 have p7 := X0.out.cell (i := 7) rfl
 have q7 := Y0.out.cell (i := 7) rfl
 have p8 := X0.out.cell (i := 8) rfl
 have q8 := Y0.out.cell (i := 8) rfl
 go_enter Tryz.func24, Tryz.ntmps24
 go_wp2_with (first
  | (go_at_call 55; (with_reducible refine (HP.out W0 BA.out).mono ?_); rintro e w1 ⟨rfl, hb⟩; have B1 := hid (BA.out.trans (hb.mono BA.out.size)); have X1 := hid (X0.out.below hb); have Y1 := hid (Y0.out.below hb); clear hb p0 q0 p1 q1 p2 q2 p3 q3 p4 q4 p5 q5 p6 q6 p7 q7 p8 q8; have p9 := X1.out.cell (i := 9) rfl; have q9 := Y1.out.cell (i := 9) rfl)
  | (go_at_call 55; (with_reducible refine (HA.out w1 B1.out).mono ?_); rintro e w2 ⟨rfl, hb⟩; have B2 := hid (B1.out.trans (hb.mono B1.out.size)); have X2 := hid (X1.out.below hb); have Y2 := hid (Y1.out.below hb); clear hb p9 q9)
  | (refine load_mid_g (by rfl) 30 _ rfl w.heap.size 10 rfl (ccs E.c a.c) _ (X2.out.mid 10 16) Tryz.underlying30 rfl size29 ?_)
  | (refine load_mid_g (by rfl) 30 _ rfl (w.heap.size + 1) 10 rfl (ccs E.c b.c) _ (Y2.out.mid 10 16) Tryz.underlying30 rfl size29 ?_)
  | (go_at_call 35; (with_reducible refine (HC.out w2 B2.out).mono ?_); rintro e w3 ⟨rfl, hb⟩; have B3 := hid (B2.out.trans (hb.mono B2.out.size)); have X3 := hid (X2.out.below hb); have Y3 := hid (Y2.out.below hb); clear hb ; have p26 := X3.out.cell (i := 26) rfl; have q26 := Y3.out.cell (i := 26) rfl; have p27 := X3.out.cell (i := 27) rfl; have q27 := Y3.out.cell (i := 27) rfl; have p28 := X3.out.cell (i := 28) rfl; have q28 := Y3.out.cell (i := 28) rfl)
  | fail)
 go_ret
 exact ⟨rfl, B3.out⟩
end Go.Proofs.YtablocpcgknmaaaGreatDoor
