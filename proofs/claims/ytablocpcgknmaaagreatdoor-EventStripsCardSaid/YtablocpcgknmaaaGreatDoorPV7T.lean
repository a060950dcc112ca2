/- Same and its reference at equal events. No condition. -/
import Derived.Test.YtablocpcgknmaaaGreatDoorPV6
import Derived.Test.YtablocpcgknmaaaGreatDoorPK37
namespace Go.Proofs.YtablocpcgknmaaaGreatDoor
open Go Go.RowKit
set_option linter.unusedVariables false
set_option linter.unusedSimpArgs false
set_option maxRecDepth 100000

set_option maxHeartbeats 32000000 in
theorem same40t (E : Ew) (a b : Aw) (w : World) (h : IsE w E a) (h' : IsE w E b) : Calls Tryz.prog 40 #[.agg (ecs E a).toArray, .agg (ecs E b).toArray] w fun e w' => e = .returned (.bool true) ∧ Below w.heap.size w w' := by
  have BA := Lib.hid (((Below.refl w.heap.size w).alloc (Nat.le_refl _) (.cells #[.int .i64 E.id, .string E.rm, .string E.sd, .int .i64 E.kd, .bool E.st, .string E.ky, .int .i64 E.tm, .int .i64 E.dp, .slice a.pA E.pv.length a.pC, .slice a.qA E.au.length a.qC, .string E.c.tx, .int .i64 E.c.n, .int .i64 E.c.tg, .bool E.c.th, .string E.c.via, .slice a.c.aA E.c.al.length a.c.aC, .slice a.c.dA E.c.dn.length a.c.dC, .slice a.c.uA E.c.us.length a.c.uC, .slice a.c.kA E.c.ks.length a.c.kC, .int .i64 E.c.d, .int .i64 E.c.x3, .int .i64 E.c.x4, .int .i64 E.c.x5, .int .i64 E.c.x6, .int .i64 E.c.x7, .int .i64 E.c.x8, .int .i64 E.hs, .string E.sv, .int .i64 E.sm] 34)).alloc (by simp) (.cells #[.int .i64 E.id, .string E.rm, .string E.sd, .int .i64 E.kd, .bool E.st, .string E.ky, .int .i64 E.tm, .int .i64 E.dp, .slice b.pA E.pv.length b.pC, .slice b.qA E.au.length b.qC, .string E.c.tx, .int .i64 E.c.n, .int .i64 E.c.tg, .bool E.c.th, .string E.c.via, .slice b.c.aA E.c.al.length b.c.aC, .slice b.c.dA E.c.dn.length b.c.dC, .slice b.c.uA E.c.us.length b.c.uC, .slice b.c.kA E.c.ks.length b.c.kC, .int .i64 E.c.d, .int .i64 E.c.x3, .int .i64 E.c.x4, .int .i64 E.c.x5, .int .i64 E.c.x6, .int .i64 E.c.x7, .int .i64 E.c.x8, .int .i64 E.hs, .string E.sv, .int .i64 E.sm] 34))
  have X0 := Lib.hid ((blk_new w [.int .i64 E.id, .string E.rm, .string E.sd, .int .i64 E.kd, .bool E.st, .string E.ky, .int .i64 E.tm, .int .i64 E.dp, .slice a.pA E.pv.length a.pC, .slice a.qA E.au.length a.qC, .string E.c.tx, .int .i64 E.c.n, .int .i64 E.c.tg, .bool E.c.th, .string E.c.via, .slice a.c.aA E.c.al.length a.c.aC, .slice a.c.dA E.c.dn.length a.c.dC, .slice a.c.uA E.c.us.length a.c.uC, .slice a.c.kA E.c.ks.length a.c.kC, .int .i64 E.c.d, .int .i64 E.c.x3, .int .i64 E.c.x4, .int .i64 E.c.x5, .int .i64 E.c.x6, .int .i64 E.c.x7, .int .i64 E.c.x8, .int .i64 E.hs, .string E.sv, .int .i64 E.sm] 34).alloc (.cells #[.int .i64 E.id, .string E.rm, .string E.sd, .int .i64 E.kd, .bool E.st, .string E.ky, .int .i64 E.tm, .int .i64 E.dp, .slice b.pA E.pv.length b.pC, .slice b.qA E.au.length b.qC, .string E.c.tx, .int .i64 E.c.n, .int .i64 E.c.tg, .bool E.c.th, .string E.c.via, .slice b.c.aA E.c.al.length b.c.aC, .slice b.c.dA E.c.dn.length b.c.dC, .slice b.c.uA E.c.us.length b.c.uC, .slice b.c.kA E.c.ks.length b.c.kC, .int .i64 E.c.d, .int .i64 E.c.x3, .int .i64 E.c.x4, .int .i64 E.c.x5, .int .i64 E.c.x6, .int .i64 E.c.x7, .int .i64 E.c.x8, .int .i64 E.hs, .string E.sv, .int .i64 E.sm] 34))
  have Y0 := Lib.hid (blk_new2 w (.cells #[.int .i64 E.id, .string E.rm, .string E.sd, .int .i64 E.kd, .bool E.st, .string E.ky, .int .i64 E.tm, .int .i64 E.dp, .slice a.pA E.pv.length a.pC, .slice a.qA E.au.length a.qC, .string E.c.tx, .int .i64 E.c.n, .int .i64 E.c.tg, .bool E.c.th, .string E.c.via, .slice a.c.aA E.c.al.length a.c.aC, .slice a.c.dA E.c.dn.length a.c.dC, .slice a.c.uA E.c.us.length a.c.uC, .slice a.c.kA E.c.ks.length a.c.kC, .int .i64 E.c.d, .int .i64 E.c.x3, .int .i64 E.c.x4, .int .i64 E.c.x5, .int .i64 E.c.x6, .int .i64 E.c.x7, .int .i64 E.c.x8, .int .i64 E.hs, .string E.sv, .int .i64 E.sm] 34) [.int .i64 E.id, .string E.rm, .string E.sd, .int .i64 E.kd, .bool E.st, .string E.ky, .int .i64 E.tm, .int .i64 E.dp, .slice b.pA E.pv.length b.pC, .slice b.qA E.au.length b.qC, .string E.c.tx, .int .i64 E.c.n, .int .i64 E.c.tg, .bool E.c.th, .string E.c.via, .slice b.c.aA E.c.al.length b.c.aC, .slice b.c.dA E.c.dn.length b.c.dC, .slice b.c.uA E.c.us.length b.c.uC, .slice b.c.kA E.c.ks.length b.c.kC, .int .i64 E.c.d, .int .i64 E.c.x3, .int .i64 E.c.x4, .int .i64 E.c.x5, .int .i64 E.c.x6, .int .i64 E.c.x7, .int .i64 E.c.x8, .int .i64 E.hs, .string E.sv, .int .i64 E.sm] 34)
  have HP := Lib.hid (fun y (hb : Below w.heap.size w y) => equal83 a.pA E.pv.length a.pC E.pv b.pA E.pv.length b.pC E.pv y (h.pv.below hb) (h'.pv.below hb) true (decide_eq_true rfl))
  have HA := Lib.hid (fun y (hb : Below w.heap.size w y) => equal83 a.qA E.au.length a.qC E.au b.qA E.au.length b.qC E.au y (h.au.below hb) (h'.au.below hb) true (decide_eq_true rfl))
  have HC := Lib.hid (fun y (hb : Below w.heap.size w y) => same20r E.c a.c b.c y (h.c.below hb) (h'.c.below hb))
  clear h h'
  show Calls Tryz.prog 40 #[.agg #[.int .i64 E.id, .string E.rm, .string E.sd, .int .i64 E.kd, .bool E.st, .string E.ky, .int .i64 E.tm, .int .i64 E.dp, .slice a.pA E.pv.length a.pC, .slice a.qA E.au.length a.qC, .string E.c.tx, .int .i64 E.c.n, .int .i64 E.c.tg, .bool E.c.th, .string E.c.via, .slice a.c.aA E.c.al.length a.c.aC, .slice a.c.dA E.c.dn.length a.c.dC, .slice a.c.uA E.c.us.length a.c.uC, .slice a.c.kA E.c.ks.length a.c.kC, .int .i64 E.c.d, .int .i64 E.c.x3, .int .i64 E.c.x4, .int .i64 E.c.x5, .int .i64 E.c.x6, .int .i64 E.c.x7, .int .i64 E.c.x8, .int .i64 E.hs, .string E.sv, .int .i64 E.sm], .agg #[.int .i64 E.id, .string E.rm, .string E.sd, .int .i64 E.kd, .bool E.st, .string E.ky, .int .i64 E.tm, .int .i64 E.dp, .slice b.pA E.pv.length b.pC, .slice b.qA E.au.length b.qC, .string E.c.tx, .int .i64 E.c.n, .int .i64 E.c.tg, .bool E.c.th, .string E.c.via, .slice b.c.aA E.c.al.length b.c.aC, .slice b.c.dA E.c.dn.length b.c.dC, .slice b.c.uA E.c.us.length b.c.uC, .slice b.c.kA E.c.ks.length b.c.kC, .int .i64 E.c.d, .int .i64 E.c.x3, .int .i64 E.c.x4, .int .i64 E.c.x5, .int .i64 E.c.x6, .int .i64 E.c.x7, .int .i64 E.c.x8, .int .i64 E.hs, .string E.sv, .int .i64 E.sm]] w _
  generalize hW0 : (w.alloc (.cells #[.int .i64 E.id, .string E.rm, .string E.sd, .int .i64 E.kd, .bool E.st, .string E.ky, .int .i64 E.tm, .int .i64 E.dp, .slice a.pA E.pv.length a.pC, .slice a.qA E.au.length a.qC, .string E.c.tx, .int .i64 E.c.n, .int .i64 E.c.tg, .bool E.c.th, .string E.c.via, .slice a.c.aA E.c.al.length a.c.aC, .slice a.c.dA E.c.dn.length a.c.dC, .slice a.c.uA E.c.us.length a.c.uC, .slice a.c.kA E.c.ks.length a.c.kC, .int .i64 E.c.d, .int .i64 E.c.x3, .int .i64 E.c.x4, .int .i64 E.c.x5, .int .i64 E.c.x6, .int .i64 E.c.x7, .int .i64 E.c.x8, .int .i64 E.hs, .string E.sv, .int .i64 E.sm] 34)).alloc (.cells #[.int .i64 E.id, .string E.rm, .string E.sd, .int .i64 E.kd, .bool E.st, .string E.ky, .int .i64 E.tm, .int .i64 E.dp, .slice b.pA E.pv.length b.pC, .slice b.qA E.au.length b.qC, .string E.c.tx, .int .i64 E.c.n, .int .i64 E.c.tg, .bool E.c.th, .string E.c.via, .slice b.c.aA E.c.al.length b.c.aC, .slice b.c.dA E.c.dn.length b.c.dC, .slice b.c.uA E.c.us.length b.c.uC, .slice b.c.kA E.c.ks.length b.c.kC, .int .i64 E.c.d, .int .i64 E.c.x3, .int .i64 E.c.x4, .int .i64 E.c.x5, .int .i64 E.c.x6, .int .i64 E.c.x7, .int .i64 E.c.x8, .int .i64 E.hs, .string E.sv, .int .i64 E.sm] 34) = W0 at BA X0 Y0
  have p0 := X0.out.cell (i := 0) rfl
  have q0 := Y0.out.cell (i := 0) rfl
  have p1 := X0.out.cell (i := 1) rfl
  have q1 := Y0.out.cell (i := 1) rfl
  have p2 := X0.out.cell (i := 2) rfl
  have q2 := Y0.out.cell (i := 2) rfl
  have p3 := X0.out.cell (i := 3) rfl
  have q3 := Y0.out.cell (i := 3) rfl
  have p4 := X0.out.cell (i := 4) rfl
  have q4 := Y0.out.cell (i := 4) rfl
  have p5 := X0.out.cell (i := 5) rfl
  have q5 := Y0.out.cell (i := 5) rfl
  have p6 := X0.out.cell (i := 6) rfl
  have q6 := Y0.out.cell (i := 6) rfl
  have p7 := X0.out.cell (i := 7) rfl
  have q7 := Y0.out.cell (i := 7) rfl
  have p8 := X0.out.cell (i := 8) rfl
  have q8 := Y0.out.cell (i := 8) rfl
  go_enter Tryz.func40, Tryz.ntmps40
  go_wp2_with (first
    | (go_at_call 83; (with_reducible refine (HP.out W0 BA.out).mono ?_); rintro e w1 ⟨rfl, hb⟩; have B1 := Lib.hid (BA.out.trans (hb.mono BA.out.size)); have X1 := Lib.hid (X0.out.below hb); have Y1 := Lib.hid (Y0.out.below hb); clear hb p0 q0 p1 q1 p2 q2 p3 q3 p4 q4 p5 q5 p6 q6 p7 q7 p8 q8; have p9 := X1.out.cell (i := 9) rfl; have q9 := Y1.out.cell (i := 9) rfl)
    | (go_at_call 83; (with_reducible refine (HA.out w1 B1.out).mono ?_); rintro e w2 ⟨rfl, hb⟩; have B2 := Lib.hid (B1.out.trans (hb.mono B1.out.size)); have X2 := Lib.hid (X1.out.below hb); have Y2 := Lib.hid (Y1.out.below hb); clear hb p9 q9)
    | (refine load_mid_g (by rfl) 30 _ rfl w.heap.size 10 rfl (ccs E.c a.c) _ (X2.out.mid 10 16) Tryz.underlying30 rfl size29 ?_)
    | (refine load_mid_g (by rfl) 30 _ rfl (w.heap.size + 1) 10 rfl (ccs E.c b.c) _ (Y2.out.mid 10 16) Tryz.underlying30 rfl size29 ?_)
    | (go_at_call 84; (with_reducible refine (HC.out w2 B2.out).mono ?_); rintro e w3 ⟨rfl, hb⟩; have B3 := Lib.hid (B2.out.trans (hb.mono B2.out.size)); have X3 := Lib.hid (X2.out.below hb); have Y3 := Lib.hid (Y2.out.below hb); clear hb ; have p26 := X3.out.cell (i := 26) rfl; have q26 := Y3.out.cell (i := 26) rfl; have p27 := X3.out.cell (i := 27) rfl; have q27 := Y3.out.cell (i := 27) rfl; have p28 := X3.out.cell (i := 28) rfl; have q28 := Y3.out.cell (i := 28) rfl)
    | (refine load_mid_g (by rfl) 32 _ rfl w.heap.size 27 rfl [.string E.sv, .int .i64 E.sm] _ (X3.out.mid 27 2) Tryz.underlying32 rfl size32 ?_)
    | (refine load_mid_g (by rfl) 32 _ rfl (w.heap.size + 1) 27 rfl [.string E.sv, .int .i64 E.sm] _ (Y3.out.mid 27 2) Tryz.underlying32 rfl size32 ?_)
    | fail)
  go_ret
  exact ⟨rfl, B3.out⟩
end Go.Proofs.YtablocpcgknmaaaGreatDoor
