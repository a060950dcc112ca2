/- EventChecks: its walk. No condition. -/
import Derived.Test.YtablocpcgknmaaaGreatDoorPV18
import Derived.Test.YtablocpcgknmaaaGreatDoorPV5
namespace Go.Proofs.YtablocpcgknmaaaGreatDoor
open Go Go.RowKit
set_option linter.unusedVariables false
set_option linter.unusedSimpArgs false
set_option maxRecDepth 100000

set_option maxHeartbeats 16000000 in
theorem checks_walk (E : Ew) (a : Aw) (w : World) (h : IsE w E a) (hl : Lt w) : Calls Tryz.prog 3 #[.agg (ecs E a).toArray] w fun e w' => e = .returned (.bool true) ∧ Below w.heap.size w w' := by
  have BA := Lib.hid ((Below.refl w.heap.size w).alloc (Nat.le_refl _) (.cells #[.int .i64 E.id, .string E.rm, .string E.sd, .int .i64 E.kd, .bool E.st, .string E.ky, .int .i64 E.tm, .int .i64 E.dp, .slice a.pA E.pv.length a.pC, .slice a.qA E.au.length a.qC, .string E.c.tx, .int .i64 E.c.n, .int .i64 E.c.tg, .bool E.c.th, .string E.c.via, .slice a.c.aA E.c.al.length a.c.aC, .slice a.c.dA E.c.dn.length a.c.dC, .slice a.c.uA E.c.us.length a.c.uC, .slice a.c.kA E.c.ks.length a.c.kC, .int .i64 E.c.d, .int .i64 E.c.x3, .int .i64 E.c.x4, .int .i64 E.c.x5, .int .i64 E.c.x6, .int .i64 E.c.x7, .int .i64 E.c.x8, .int .i64 E.hs, .string E.sv, .int .i64 E.sm] 34))
  have XA := Lib.hid (blk_new w [.int .i64 E.id, .string E.rm, .string E.sd, .int .i64 E.kd, .bool E.st, .string E.ky, .int .i64 E.tm, .int .i64 E.dp, .slice a.pA E.pv.length a.pC, .slice a.qA E.au.length a.qC, .string E.c.tx, .int .i64 E.c.n, .int .i64 E.c.tg, .bool E.c.th, .string E.c.via, .slice a.c.aA E.c.al.length a.c.aC, .slice a.c.dA E.c.dn.length a.c.dC, .slice a.c.uA E.c.us.length a.c.uC, .slice a.c.kA E.c.ks.length a.c.kC, .int .i64 E.c.d, .int .i64 E.c.x3, .int .i64 E.c.x4, .int .i64 E.c.x5, .int .i64 E.c.x6, .int .i64 E.c.x7, .int .i64 E.c.x8, .int .i64 E.hs, .string E.sv, .int .i64 E.sm] 34)
  have HF := Lib.hid (small13 E a _ (h.below BA.out))
  have HH := Lib.hid h
  have HL := Lib.hid hl
  clear h hl
  dsimp only [ecs] at HF
  show Calls Tryz.prog 3 #[.agg #[.int .i64 E.id, .string E.rm, .string E.sd, .int .i64 E.kd, .bool E.st, .string E.ky, .int .i64 E.tm, .int .i64 E.dp, .slice a.pA E.pv.length a.pC, .slice a.qA E.au.length a.qC, .string E.c.tx, .int .i64 E.c.n, .int .i64 E.c.tg, .bool E.c.th, .string E.c.via, .slice a.c.aA E.c.al.length a.c.aC, .slice a.c.dA E.c.dn.length a.c.dC, .slice a.c.uA E.c.us.length a.c.uC, .slice a.c.kA E.c.ks.length a.c.kC, .int .i64 E.c.d, .int .i64 E.c.x3, .int .i64 E.c.x4, .int .i64 E.c.x5, .int .i64 E.c.x6, .int .i64 E.c.x7, .int .i64 E.c.x8, .int .i64 E.hs, .string E.sv, .int .i64 E.sm]] w _
  go_enter Tryz.func3, Tryz.ntmps3
  go_upto_region 3 with (first
    | (refine load_mid_g (by first | rfl | (simp only [*]; rfl)) 34 _ rfl w.heap.size 0 rfl [.int .i64 E.id, .string E.rm, .string E.sd, .int .i64 E.kd, .bool E.st, .string E.ky, .int .i64 E.tm, .int .i64 E.dp, .slice a.pA E.pv.length a.pC, .slice a.qA E.au.length a.qC, .string E.c.tx, .int .i64 E.c.n, .int .i64 E.c.tg, .bool E.c.th, .string E.c.via, .slice a.c.aA E.c.al.length a.c.aC, .slice a.c.dA E.c.dn.length a.c.dC, .slice a.c.uA E.c.us.length a.c.uC, .slice a.c.kA E.c.ks.length a.c.kC, .int .i64 E.c.d, .int .i64 E.c.x3, .int .i64 E.c.x4, .int .i64 E.c.x5, .int .i64 E.c.x6, .int .i64 E.c.x7, .int .i64 E.c.x8, .int .i64 E.hs, .string E.sv, .int .i64 E.sm] _ XA.out.range Tryz.underlying34 rfl size34 ?_)
    | (go_at_call 13; (with_reducible refine HF.out.mono ?_); rintro e w1 ⟨q, rfl, hq, hb⟩; have B1 := Lib.hid (BA.out.trans (hb.mono BA.out.size)); have X1 := Lib.hid (XA.out.below hb); have Q1 := Lib.hid hq; clear hq hb; cases q)
    | (go_at_call 14; (with_reducible refine (lives14 w1 (HL.out.below B1.out)).mono ?_); rintro e w2 ⟨rfl, hb⟩; have B2 := Lib.hid (B1.out.trans (hb.mono B1.out.size)); clear hb)
    | fail)
  · go_ret
    exact ⟨rfl, B2.out⟩
  · have HC := Lib.hid (fun y (hb : Below w1.heap.size w1 y) => check15 E a y ((HH.out.below B1.out).below hb) ((HL.out.below B1.out).below hb))
    have HR := Lib.hid (fun y (hb : Below w1.heap.size w1 y) => rcheck16 E a y ((HH.out.below B1.out).below hb))
    have HT := Lib.hid (HL.out.below B1.out)
    dsimp only [ecs] at HC HR
    generalize chk7 E = r at HC HR
    have e0 : (r == r) = true := beq_self_eq_true r
    clear HF XA BA HH HL Q1
    refine wp_region_held_drew (S := (fun y => Below w1.heap.size w1 y)) (by kernel_rfl) ((Below.refl w1.heap.size w1).drew) (fun hH0 => ?_)
    generalize hy0 : World.drew _ = y0 at hH0 ⊢
    have RB0 : Hid (Below w1.heap.size w1 y0) := Lib.hid hH0
    clear hy0
    refine wpAnyH_take (i := 0) (oi := ({ dst := some 7, op := Op.load 34 (Operand.tmp 1), type := 34, pos := "law.go:58", after := #[], guard := none } : Oper)) (v := .agg #[.int .i64 E.id, .string E.rm, .string E.sd, .int .i64 E.kd, .bool E.st, .string E.ky, .int .i64 E.tm, .int .i64 E.dp, .slice a.pA E.pv.length a.pC, .slice a.qA E.au.length a.qC, .string E.c.tx, .int .i64 E.c.n, .int .i64 E.c.tg, .bool E.c.th, .string E.c.via, .slice a.c.aA E.c.al.length a.c.aC, .slice a.c.dA E.c.dn.length a.c.dC, .slice a.c.uA E.c.us.length a.c.uC, .slice a.c.kA E.c.ks.length a.c.kC, .int .i64 E.c.d, .int .i64 E.c.x3, .int .i64 E.c.x4, .int .i64 E.c.x5, .int .i64 E.c.x6, .int .i64 E.c.x7, .int .i64 E.c.x8, .int .i64 E.hs, .string E.sv, .int .i64 E.sm]) rfl (by kernel_rfl) (by kernel_rfl) (by kernel_rfl) (fun _ _ _ h => h) (yieldsIf_load_mid (by first | rfl | (simp only [*]; rfl)) 34 _ rfl w.heap.size 0 rfl [.int .i64 E.id, .string E.rm, .string E.sd, .int .i64 E.kd, .bool E.st, .string E.ky, .int .i64 E.tm, .int .i64 E.dp, .slice a.pA E.pv.length a.pC, .slice a.qA E.au.length a.qC, .string E.c.tx, .int .i64 E.c.n, .int .i64 E.c.tg, .bool E.c.th, .string E.c.via, .slice a.c.aA E.c.al.length a.c.aC, .slice a.c.dA E.c.dn.length a.c.dC, .slice a.c.uA E.c.us.length a.c.uC, .slice a.c.kA E.c.ks.length a.c.kC, .int .i64 E.c.d, .int .i64 E.c.x3, .int .i64 E.c.x4, .int .i64 E.c.x5, .int .i64 E.c.x6, .int .i64 E.c.x7, .int .i64 E.c.x8, .int .i64 E.hs, .string E.sv, .int .i64 E.sm] _ (fun w0 hw0 => (X1.out.below hw0).range) Tryz.underlying34 rfl size34) (by assumption) ?_
    try simp only [Act.put, List.setIfInBounds_toArray, List.set_cons_zero, List.set_cons_succ]
    refine wpAnyH_take (i := 2) (oi := ({ dst := some 9, op := Op.load 34 (Operand.tmp 1), type := 34, pos := "law.go:58", after := #[], guard := none } : Oper)) (v := .agg #[.int .i64 E.id, .string E.rm, .string E.sd, .int .i64 E.kd, .bool E.st, .string E.ky, .int .i64 E.tm, .int .i64 E.dp, .slice a.pA E.pv.length a.pC, .slice a.qA E.au.length a.qC, .string E.c.tx, .int .i64 E.c.n, .int .i64 E.c.tg, .bool E.c.th, .string E.c.via, .slice a.c.aA E.c.al.length a.c.aC, .slice a.c.dA E.c.dn.length a.c.dC, .slice a.c.uA E.c.us.length a.c.uC, .slice a.c.kA E.c.ks.length a.c.kC, .int .i64 E.c.d, .int .i64 E.c.x3, .int .i64 E.c.x4, .int .i64 E.c.x5, .int .i64 E.c.x6, .int .i64 E.c.x7, .int .i64 E.c.x8, .int .i64 E.hs, .string E.sv, .int .i64 E.sm]) rfl (by kernel_rfl) (by kernel_rfl) (by kernel_rfl) (fun _ _ _ h => h) (yieldsIf_load_mid (by first | rfl | (simp only [*]; rfl)) 34 _ rfl w.heap.size 0 rfl [.int .i64 E.id, .string E.rm, .string E.sd, .int .i64 E.kd, .bool E.st, .string E.ky, .int .i64 E.tm, .int .i64 E.dp, .slice a.pA E.pv.length a.pC, .slice a.qA E.au.length a.qC, .string E.c.tx, .int .i64 E.c.n, .int .i64 E.c.tg, .bool E.c.th, .string E.c.via, .slice a.c.aA E.c.al.length a.c.aC, .slice a.c.dA E.c.dn.length a.c.dC, .slice a.c.uA E.c.us.length a.c.uC, .slice a.c.kA E.c.ks.length a.c.kC, .int .i64 E.c.d, .int .i64 E.c.x3, .int .i64 E.c.x4, .int .i64 E.c.x5, .int .i64 E.c.x6, .int .i64 E.c.x7, .int .i64 E.c.x8, .int .i64 E.hs, .string E.sv, .int .i64 E.sm] _ (fun w0 hw0 => (X1.out.below hw0).range) Tryz.underlying34 rfl size34) (by assumption) ?_
    try simp only [Act.put, List.setIfInBounds_toArray, List.set_cons_zero, List.set_cons_succ]
    refine wpAnyH_ready (rs := [1]) (by kernel_rfl) (by simp) ?_
    refine AllReadyH.cons (o := ({ dst := some 8, op := Op.call { callee := Callee.value (Operand.func 15), args := #[Operand.tmp 7], argTypes := #[34] }, type := 37, pos := "law.go:58", after := #[{ on := 0, ground := Ground.data }], guard := none } : Oper)) rfl (fun KK hKK => ?_) AllReadyH.nil
    go_simp
    (with_reducible refine (HC.out _ RB0.out).mono ?_)
    rintro e0 y1 ⟨rfl, hb⟩
    have RB1 := Lib.hid (RB0.out.trans (hb.mono RB0.out.size))
    clear hb
    refine hKK.out _ _ (RB1.out) (fun hH1 => ?_)
    clear hKK KK
    try simp only [Act.put, List.setIfInBounds_toArray, List.set_cons_zero, List.set_cons_succ]
    refine wpAnyH_ready (rs := [3]) (by kernel_rfl) (by simp) ?_
    refine AllReadyH.cons (o := ({ dst := some 10, op := Op.call { callee := Callee.value (Operand.func 16), args := #[Operand.tmp 9], argTypes := #[34] }, type := 37, pos := "law.go:58", after := #[{ on := 2, ground := Ground.data }, { on := 1, ground := Ground.chain }], guard := none } : Oper)) rfl (fun KK hKK => ?_) AllReadyH.nil
    go_simp
    (with_reducible refine (HR.out _ RB1.out).mono ?_)
    rintro e0 y2 ⟨rfl, hb⟩
    have RB2 := Lib.hid (RB1.out.trans (hb.mono RB1.out.size))
    clear hb
    refine hKK.out _ _ (RB2.out) (fun hH2 => ?_)
    clear hKK KK
    try simp only [Act.put, List.setIfInBounds_toArray, List.set_cons_zero, List.set_cons_succ]
    refine wpAnyH_take (i := 4) (oi := ({ dst := some 11, op := Op.binOp BinOp.eql 37 (Operand.tmp 8) (Operand.tmp 10) 37, type := 4, pos := "law.go:58", after := #[{ on := 1, ground := Ground.data }, { on := 3, ground := Ground.data }], guard := none } : Oper)) (v := ?hv1) rfl (by kernel_rfl) (by kernel_rfl) (by kernel_rfl) (fun _ _ _ h => h) (Or.inl ⟨by rfl, ?hy1⟩) (by assumption) ?hr1
    case hy1 => (intro w hSw; (try dsimp only at hSw); go_simp; (try with_reducible rfl))
    try simp only [Act.put, List.setIfInBounds_toArray, List.set_cons_zero, List.set_cons_succ]
    refine wpAnyH_take (i := 5) (oi := ({ dst := some 12, op := Op.move (Operand.tmp 11), type := 4, pos := "law.go:58", after := #[{ on := 4, ground := Ground.data }, { on := 3, ground := Ground.chain }], guard := none } : Oper)) (v := ?hv2) rfl (by kernel_rfl) (by kernel_rfl) (by kernel_rfl) (fun _ _ _ h => h) (Or.inl ⟨by rfl, ?hy2⟩) (by assumption) ?hr2
    case hy2 => (intro w hSw; (try dsimp only at hSw); go_simp; (try with_reducible rfl))
    try simp only [Act.put, List.setIfInBounds_toArray, List.set_cons_zero, List.set_cons_succ]
    refine wpAnyH_ready (rs := [6]) (by kernel_rfl) (by simp) ?_
    refine AllReadyH.cons (o := ({ dst := some 13, op := Op.call { callee := Callee.value (Operand.func 14), args := #[], argTypes := #[] }, type := 4, pos := "law.go:58", after := #[{ on := 5, ground := Ground.chain }, { on := 5, ground := Ground.guard }], guard := some (5, true) } : Oper)) rfl (fun KK hKK => ?_) AllReadyH.nil
    go_simp
    (with_reducible refine (lives14 _ (HT.out.below RB2.out)).mono ?_)
    rintro e0 y3 ⟨rfl, hb⟩
    have RB3 := Lib.hid (RB2.out.trans (hb.mono RB2.out.size))
    clear hb
    refine hKK.out _ _ (RB3.out) (fun hH3 => ?_)
    clear hKK KK
    try simp only [Act.put, List.setIfInBounds_toArray, List.set_cons_zero, List.set_cons_succ]
    refine wpAnyH_take (i := 7) (oi := ({ dst := some 14, op := Op.pick (Operand.tmp 12) (Operand.tmp 13) (Operand.const (Value.bool false)), type := 4, pos := "law.go:58", after := #[{ on := 5, ground := Ground.data }, { on := 6, ground := Ground.data }], guard := none } : Oper)) (v := ?hv3) rfl (by kernel_rfl) (by kernel_rfl) (by kernel_rfl) (fun _ _ _ h => h) (Or.inl ⟨by rfl, ?hy3⟩) (by assumption) ?hr3
    case hy3 => (intro w hSw; (try dsimp only at hSw); go_simp; (try with_reducible rfl))
    try simp only [Act.put, List.setIfInBounds_toArray, List.set_cons_zero, List.set_cons_succ]
    refine wpAnyH_take (i := 8) (oi := ({ dst := some 2, op := Op.assign (Operand.tmp 14), type := 4, pos := "law.go:58", after := #[{ on := 7, ground := Ground.data }, { on := 6, ground := Ground.chain }, { on := 0, ground := Ground.phase }, { on := 1, ground := Ground.phase }, { on := 2, ground := Ground.phase }, { on := 3, ground := Ground.phase }, { on := 4, ground := Ground.phase }, { on := 5, ground := Ground.phase }, { on := 6, ground := Ground.phase }, { on := 7, ground := Ground.phase }], guard := none } : Oper)) (v := ?hv4) rfl (by kernel_rfl) (by kernel_rfl) (by kernel_rfl) (fun _ _ _ h => h) (Or.inl ⟨by rfl, ?hy4⟩) (by assumption) ?hr4
    case hy4 => (intro w hSw; (try dsimp only at hSw); go_simp; (try with_reducible rfl))
    try simp only [Act.put, List.setIfInBounds_toArray, List.set_cons_zero, List.set_cons_succ]
    refine wpAnyH_done (by kernel_rfl) ?_ _
    go_wp2
    go_ret
    exact ⟨rfl, B1.out.trans (RB3.out.mono B1.out.size)⟩
end Go.Proofs.YtablocpcgknmaaaGreatDoor
