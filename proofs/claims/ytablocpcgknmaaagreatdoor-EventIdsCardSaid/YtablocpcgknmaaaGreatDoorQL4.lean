/- EventIds: its walk. No condition. -/
import Derived.Test.YtablocpcgknmaaaGreatDoorQPh
import Derived.Test.YtablocpcgknmaaaGreatDoorQL5
namespace Go.Proofs.YtablocpcgknmaaaGreatDoor
open Go Go.RowKit
set_option linter.unusedVariables false
set_option linter.unusedSimpArgs false
set_option maxRecDepth 100000

theorem stepW {P : Program} {ops : Array Oper} {o : Oper} {a : Act} {y : World} {K : Act → World → Prop} {Q : Exit → Act → World → Prop} {E : Prop} (hw : Region.wanted o (yielded ops a.tmps) = true) (h : Oper.wp P o a y K Q) : if Region.wanted o (yielded ops a.tmps) = true then Oper.wp P o a y K Q else E := by
 rw [if_pos hw]; exact h
theorem wp_store_one {P : Program} {op : Oper} {a : Act} {w : World} {K : Act → World → Prop} {Q : Exit → Act → World → Prop} (ty : TypeId) (x y : Operand) (ho : op.op = .store ty x y)
  (t i : Nat) (v : Value) (cs : List Value) (T : TypeId) (hx : a.eval x = .pointer (some ⟨t, i, none⟩)) (hy : a.eval y = v) (hb : Blk w t cs T) (hi : i < cs.length) (hs : (P.info? ty).map (·.size) = some 1) (hv : v.oneCell' = true)
  (h : K (a.put op.dst undef) (w.setCell ⟨t, i, none⟩ v)) : op.wp P a w K Q := by
 unfold Oper.wp execOp
 simp only [ho, hx, hy, run_storeAt_one w t i ty v hb hi hs hv, Sem.run_bind, Sem.run_pure, Result.andThen_ok]
 exact h
set_option maxHeartbeats 32000000 in
theorem ids_long (E : Ew) (a : Aw) (id : Int) (sv : ByteArray) (sm : Int) (w : World) (h : IsE w E a) (hid : i64B id) (hsv : sv.size ≤ 9223372036854775807) (hsm : i64B sm) (hl : Lt w) (e1z : (100 : Int) < (sv.size : Int)) : Calls Tryz.prog 4 #[.agg (ecs E a).toArray, .int .i64 id, .agg #[.string sv, .int .i64 sm]] w fun e w' => e = .returned (.bool true) ∧ Below w.heap.size w w' := by
 have BA := Lib.hid (((Below.refl w.heap.size w).alloc (Nat.le_refl _) (.cells #[.int .i64 E.id, .string E.rm, .string E.sd, .int .i64 E.kd, .bool E.st, .string E.ky, .int .i64 E.tm, .int .i64 E.dp, .slice a.pA E.pv.length a.pC, .slice a.qA E.au.length a.qC, .string E.c.tx, .int .i64 E.c.n, .int .i64 E.c.tg, .bool E.c.th, .string E.c.via, .slice a.c.aA E.c.al.length a.c.aC, .slice a.c.dA E.c.dn.length a.c.dC, .slice a.c.uA E.c.us.length a.c.uC, .slice a.c.kA E.c.ks.length a.c.kC, .int .i64 E.c.d, .int .i64 E.c.x3, .int .i64 E.c.x4, .int .i64 E.c.x5, .int .i64 E.c.x6, .int .i64 E.c.x7, .int .i64 E.c.x8, .int .i64 E.hs, .string E.sv, .int .i64 E.sm] 34)).alloc (by simp) (.cells #[.string sv, .int .i64 sm] 32))
 have XA := Lib.hid ((blk_new w [.int .i64 E.id, .string E.rm, .string E.sd, .int .i64 E.kd, .bool E.st, .string E.ky, .int .i64 E.tm, .int .i64 E.dp, .slice a.pA E.pv.length a.pC, .slice a.qA E.au.length a.qC, .string E.c.tx, .int .i64 E.c.n, .int .i64 E.c.tg, .bool E.c.th, .string E.c.via, .slice a.c.aA E.c.al.length a.c.aC, .slice a.c.dA E.c.dn.length a.c.dC, .slice a.c.uA E.c.us.length a.c.uC, .slice a.c.kA E.c.ks.length a.c.kC, .int .i64 E.c.d, .int .i64 E.c.x3, .int .i64 E.c.x4, .int .i64 E.c.x5, .int .i64 E.c.x6, .int .i64 E.c.x7, .int .i64 E.c.x8, .int .i64 E.hs, .string E.sv, .int .i64 E.sm] 34).alloc (.cells #[.string sv, .int .i64 sm] 32))
 have YA := Lib.hid (blk_new2 w (.cells #[.int .i64 E.id, .string E.rm, .string E.sd, .int .i64 E.kd, .bool E.st, .string E.ky, .int .i64 E.tm, .int .i64 E.dp, .slice a.pA E.pv.length a.pC, .slice a.qA E.au.length a.qC, .string E.c.tx, .int .i64 E.c.n, .int .i64 E.c.tg, .bool E.c.th, .string E.c.via, .slice a.c.aA E.c.al.length a.c.aC, .slice a.c.dA E.c.dn.length a.c.dC, .slice a.c.uA E.c.us.length a.c.uC, .slice a.c.kA E.c.ks.length a.c.kC, .int .i64 E.c.d, .int .i64 E.c.x3, .int .i64 E.c.x4, .int .i64 E.c.x5, .int .i64 E.c.x6, .int .i64 E.c.x7, .int .i64 E.c.x8, .int .i64 E.hs, .string E.sv, .int .i64 E.sm] 34) [.string sv, .int .i64 sm] 32)
 have HF := Lib.hid (small13 E a _ (h.below BA.out))
 have HH := Lib.hid h
 have HL := Lib.hid hl
 clear h hl
 dsimp only [ecs] at HF
 show Calls Tryz.prog 4 #[.agg #[.int .i64 E.id, .string E.rm, .string E.sd, .int .i64 E.kd, .bool E.st, .string E.ky, .int .i64 E.tm, .int .i64 E.dp, .slice a.pA E.pv.length a.pC, .slice a.qA E.au.length a.qC, .string E.c.tx, .int .i64 E.c.n, .int .i64 E.c.tg, .bool E.c.th, .string E.c.via, .slice a.c.aA E.c.al.length a.c.aC, .slice a.c.dA E.c.dn.length a.c.dC, .slice a.c.uA E.c.us.length a.c.uC, .slice a.c.kA E.c.ks.length a.c.kC, .int .i64 E.c.d, .int .i64 E.c.x3, .int .i64 E.c.x4, .int .i64 E.c.x5, .int .i64 E.c.x6, .int .i64 E.c.x7, .int .i64 E.c.x8, .int .i64 E.hs, .string E.sv, .int .i64 E.sm], .int .i64 id, .agg #[.string sv, .int .i64 sm]] w _
 go_enter Tryz.func4, Tryz.ntmps4
 go_upto_region 3 with (first
  | (refine load_mid_g (by first | rfl | (simp only [*]; rfl)) 34 _ rfl w.heap.size 0 rfl (ecs E a) _ XA.out.range Tryz.underlying34 rfl size34 ?_)
  | (go_at_call 13; (with_reducible refine HF.out.mono ?_); rintro e w1 ⟨q, rfl, hq, hb⟩; have B1 := Lib.hid (BA.out.trans (hb.mono BA.out.size)); have X1 := Lib.hid (XA.out.below hb); have Y1 := Lib.hid (YA.out.below hb); have y0 := Y1.out.cell (i := 0) rfl; have Q1 := Lib.hid (show Qz q (SmZ E) from hq); clear hq hb; cases q)
  | (go_at_call 14; (with_reducible refine (lives14 w1 (HL.out.below B1.out)).mono ?_); rintro e w2 ⟨rfl, hb⟩; have B2 := Lib.hid (B1.out.trans (hb.mono B1.out.size)); clear hb)
  | fail)
 ·go_ret
  exact ⟨rfl, B2.out⟩
 ·go_ret
  exact ⟨rfl, B2.out⟩
set_option maxHeartbeats 64000000 in
theorem ids_well (E : Ew) (a : Aw) (id : Int) (sv : ByteArray) (sm : Int) (w : World) (h : IsE w E a) (hid : i64B id) (hsv : sv.size ≤ 9223372036854775807) (hsm : i64B sm) (hl : Lt w) (e1z : ¬ (100 : Int) < (sv.size : Int)) : Calls Tryz.prog 4 #[.agg (ecs E a).toArray, .int .i64 id, .agg #[.string sv, .int .i64 sm]] w fun e w' => e = .returned (.bool true) ∧ Below w.heap.size w w' := by
 have BA := Lib.hid (((Below.refl w.heap.size w).alloc (Nat.le_refl _) (.cells #[.int .i64 E.id, .string E.rm, .string E.sd, .int .i64 E.kd, .bool E.st, .string E.ky, .int .i64 E.tm, .int .i64 E.dp, .slice a.pA E.pv.length a.pC, .slice a.qA E.au.length a.qC, .string E.c.tx, .int .i64 E.c.n, .int .i64 E.c.tg, .bool E.c.th, .string E.c.via, .slice a.c.aA E.c.al.length a.c.aC, .slice a.c.dA E.c.dn.length a.c.dC, .slice a.c.uA E.c.us.length a.c.uC, .slice a.c.kA E.c.ks.length a.c.kC, .int .i64 E.c.d, .int .i64 E.c.x3, .int .i64 E.c.x4, .int .i64 E.c.x5, .int .i64 E.c.x6, .int .i64 E.c.x7, .int .i64 E.c.x8, .int .i64 E.hs, .string E.sv, .int .i64 E.sm] 34)).alloc (by simp) (.cells #[.string sv, .int .i64 sm] 32))
 have XA := Lib.hid ((blk_new w [.int .i64 E.id, .string E.rm, .string E.sd, .int .i64 E.kd, .bool E.st, .string E.ky, .int .i64 E.tm, .int .i64 E.dp, .slice a.pA E.pv.length a.pC, .slice a.qA E.au.length a.qC, .string E.c.tx, .int .i64 E.c.n, .int .i64 E.c.tg, .bool E.c.th, .string E.c.via, .slice a.c.aA E.c.al.length a.c.aC, .slice a.c.dA E.c.dn.length a.c.dC, .slice a.c.uA E.c.us.length a.c.uC, .slice a.c.kA E.c.ks.length a.c.kC, .int .i64 E.c.d, .int .i64 E.c.x3, .int .i64 E.c.x4, .int .i64 E.c.x5, .int .i64 E.c.x6, .int .i64 E.c.x7, .int .i64 E.c.x8, .int .i64 E.hs, .string E.sv, .int .i64 E.sm] 34).alloc (.cells #[.string sv, .int .i64 sm] 32))
 have YA := Lib.hid (blk_new2 w (.cells #[.int .i64 E.id, .string E.rm, .string E.sd, .int .i64 E.kd, .bool E.st, .string E.ky, .int .i64 E.tm, .int .i64 E.dp, .slice a.pA E.pv.length a.pC, .slice a.qA E.au.length a.qC, .string E.c.tx, .int .i64 E.c.n, .int .i64 E.c.tg, .bool E.c.th, .string E.c.via, .slice a.c.aA E.c.al.length a.c.aC, .slice a.c.dA E.c.dn.length a.c.dC, .slice a.c.uA E.c.us.length a.c.uC, .slice a.c.kA E.c.ks.length a.c.kC, .int .i64 E.c.d, .int .i64 E.c.x3, .int .i64 E.c.x4, .int .i64 E.c.x5, .int .i64 E.c.x6, .int .i64 E.c.x7, .int .i64 E.c.x8, .int .i64 E.hs, .string E.sv, .int .i64 E.sm] 34) [.string sv, .int .i64 sm] 32)
 have HF := Lib.hid (small13 E a _ (h.below BA.out))
 have HH := Lib.hid h
 have HL := Lib.hid hl
 clear h hl
 dsimp only [ecs] at HF
 have H17 := Lib.hid (fun y (hz : SmZ E) (hb : Below w.heap.size w y) => hash17 E a y (HH.out.below hb) hz.c)
 have H18 := Lib.hid (fun y (hz : SmZ E) (hb : Below w.heap.size w y) => rhash18 E a y (HH.out.below hb) hz.c)
 have H19 := Lib.hid (fun y (hz : SmZ E) (hb : Below w.heap.size w y) => idOf19 E a y (HH.out.below hb) hz (HL.out.below hb))
 have H20 := Lib.hid (fun y (hz : SmZ E) (hb : Below w.heap.size w y) => ridOf20 E a y (HH.out.below hb) hz)
 have H21 := Lib.hid (fun y (hz : SmZ E) (hb : Below w.heap.size w y) => whole21 E a y (HH.out.below hb) hz.c)
 have H22 := Lib.hid (fun y (hz : SmZ E) (hb : Below w.heap.size w y) => rwhole22 E a y (HH.out.below hb) hz.c)
 dsimp only [ecs] at H17 H18 H19 H20 H21 H22
 obtain ⟨F, hF⟩ : ∃ F, F = { E with id := id, sv := sv, sm := sm } := ⟨_, rfl⟩
 have HFI := Lib.hid (fun y (hz : SmZ E) (hi : IsE y F a) (hb : Below w.heap.size w y) => idOf19 F a y hi (show SmZ F by rw [hF]; exact ⟨hz.rm, hz.sd, hz.ky, (show sv.size ≤ 1000 by omega), hz.pv, hz.au, hz.c⟩) (HL.out.below hb))
 rw [show idE F = idE E by rw [hF]; rfl] at HFI
 have HFD := Lib.hid hF
 have HID := Lib.hid (And.intro hid (And.intro hsv hsm))
 generalize hshE E = p at H17 H18
 generalize idE E = r at H19 H20 HFI
 generalize whoB E = wb at H21 H22
 have e0 : (p == p) = true := beq_self_eq_true p
 have e2 : (r == r) = true := beq_self_eq_true r
 have e3 : (wb == wb) = true := by cases wb <;> rfl
 clear hF hid hsv hsm
 show Calls Tryz.prog 4 #[.agg #[.int .i64 E.id, .string E.rm, .string E.sd, .int .i64 E.kd, .bool E.st, .string E.ky, .int .i64 E.tm, .int .i64 E.dp, .slice a.pA E.pv.length a.pC, .slice a.qA E.au.length a.qC, .string E.c.tx, .int .i64 E.c.n, .int .i64 E.c.tg, .bool E.c.th, .string E.c.via, .slice a.c.aA E.c.al.length a.c.aC, .slice a.c.dA E.c.dn.length a.c.dC, .slice a.c.uA E.c.us.length a.c.uC, .slice a.c.kA E.c.ks.length a.c.kC, .int .i64 E.c.d, .int .i64 E.c.x3, .int .i64 E.c.x4, .int .i64 E.c.x5, .int .i64 E.c.x6, .int .i64 E.c.x7, .int .i64 E.c.x8, .int .i64 E.hs, .string E.sv, .int .i64 E.sm], .int .i64 id, .agg #[.string sv, .int .i64 sm]] w _
 go_enter Tryz.func4, Tryz.ntmps4
 go_upto_region 3 with (first
  | (refine load_mid_g (by first | rfl | (simp only [*]; rfl)) 34 _ rfl w.heap.size 0 rfl (ecs E a) _ XA.out.range Tryz.underlying34 rfl size34 ?_)
  | (go_at_call 13; (with_reducible refine HF.out.mono ?_); rintro e w1 ⟨q, rfl, hq, hb⟩; have B1 := Lib.hid (BA.out.trans (hb.mono BA.out.size)); have X1 := Lib.hid (XA.out.below hb); have Y1 := Lib.hid (YA.out.below hb); have y0 := Y1.out.cell (i := 0) rfl; have Q1 := Lib.hid (show Qz q (SmZ E) from hq); clear hq hb; cases q)
  | (go_at_call 14; (with_reducible refine (lives14 w1 (HL.out.below B1.out)).mono ?_); rintro e w2 ⟨rfl, hb⟩; have B2 := Lib.hid (B1.out.trans (hb.mono B1.out.size)); clear hb)
  | fail)
 ·go_ret
  exact ⟨rfl, B2.out⟩
 ·have HZ := Lib.hid Q1.out.yes
  clear XA YA BA Q1 y0
  have A1 := Lib.hid ((HH.out.below B1.out).ap (Nat.le_refl w1.heap.size))
  have C1 := B1
  have L1 := Lib.hid X1.out.lt
  have L2 := Lib.hid Y1.out.lt
  go_upto_region 4 with (first
   | (refine load_mid_g (by first | rfl | (simp only [*]; rfl)) 34 _ rfl w.heap.size 0 rfl (ecs E a) _ X1.out.range Tryz.underlying34 rfl size34 ?_)
   | (refine store_as34 rfl 34 _ _ rfl z29 (ecs E a) rfl rfl rfl size34 (ecs_one E a) ?_; intro w3 hx hb; have P3 := Lib.hid (show Blk w3 w1.heap.size (ecs E a) 34 from hx); have B3 := Lib.hid (B1.out.trans (hb.mono B1.out.size)); have I3 := Lib.hid (HH.out.below B3.out); have X3 := Lib.hid (X1.out.below hb); have Y3 := Lib.hid (Y1.out.below hb); clear hx hb)
   | fail)
  clear X1 Y1 B1
  refine wp_region_held_drew (S := (fun y => Blk y (w.heap.size + 1) [.string sv, .int .i64 sm] 32)) (by kernel_rfl) (Y3.out.below (Below.refl w3.heap.size w3).drew) (fun hH0 => ?_)
  have hD := (Below.refl w3.heap.size w3).drew
  generalize hy0 : World.drew w3 = y0 at hD hH0 ⊢
  have P0 := Lib.hid (P3.out.below hD)
  have I0 := Lib.hid (I3.out.below hD)
  have B4 := Lib.hid (B3.out.trans (hD.mono B3.out.size))
  have X4 := Lib.hid (X3.out.below hD)
  have Y4 := Lib.hid (Y3.out.below hD)
  clear hy0 hD P3 I3 B3 X3 Y3
  refine mvA 0 (v := ?hv14) rfl ?hy14 ?hr14
  case hy14 => (intro w hSw; (try dsimp only at hSw); go_simp; (try with_reducible rfl))
  try simp only [Act.put, lsA, ls0, ls1]
  refine mvY 1 (v := .agg #[.string sv, .int .i64 sm]) rfl (yieldsIf_load_mid (by rfl) 32 _ rfl (w.heap.size + 1) 0 rfl [.string sv, .int .i64 sm] _ (fun w0 hw0 => hw0.range) Tryz.underlying32 rfl size32) ?_
  try simp only [Act.put, lsA, ls0, ls1]
  refine mvA 2 (v := ?hv15) rfl ?hy15 ?hr15
  case hy15 => (intro w hSw; (try dsimp only at hSw); go_simp; (try with_reducible rfl))
  try simp only [Act.put, lsA, ls0, ls1]
  refine mvR 3 rfl (fun KK hKK => ?_)
  refine stepW (by rfl) (wp_store_one 3 _ _ rfl w1.heap.size 0 (.int .i64 id) (ecs E a) 34 rfl rfl P0.out (show (0 : Nat) < 29 by decide) sz3 rfl ?_)
  have P1 := Lib.hid (show Blk (World.setCell y0 ⟨w1.heap.size, 0, none⟩ (.int .i64 id)) w1.heap.size (ecs { E with id := id } a) 34 from P0.out.set 0 _)
  have I1 := Lib.hid (I0.out.oneE w1.heap.size 0 (.int .i64 id) A1.out)
  have B5 := Lib.hid (B4.out.setCell (p := ⟨w1.heap.size, 0, none⟩) C1.out.size (.int .i64 id))
  have X5 := Lib.hid (X4.out.other ⟨w1.heap.size, 0, none⟩ (.int .i64 id) (by have := L1.out; show w.heap.size ≠ w1.heap.size; omega))
  have Y5 := Lib.hid (Y4.out.other ⟨w1.heap.size, 0, none⟩ (.int .i64 id) (by have := L2.out; show w.heap.size + 1 ≠ w1.heap.size; omega))
  generalize World.setCell y0 ⟨w1.heap.size, 0, none⟩ (.int .i64 id) = y1 at P1 I1 B5 X5 Y5 ⊢
  clear P0 I0 B4 X4 Y4
  refine hKK.out _ _ (Y5.out) (fun hH1 => ?_)
  clear hKK KK
  try simp only [Act.put, lsA, ls0, ls1]
  refine mvA 4 (v := ?hv16) rfl ?hy16 ?hr16
  case hy16 => (intro w hSw; (try dsimp only at hSw); go_simp; (try with_reducible rfl))
  try simp only [Act.put, lsA, ls0, ls1]
  refine mvR 5 rfl (fun KK hKK => ?_)
  refine stepW (by rfl) (wp_store_mid 32 _ _ rfl w1.heap.size 27 (#[.string sv, .int .i64 sm] : Array Value) rfl rfl (Blk.thereAt P1.out 27 2 (show (27 : Nat) + 2 ≤ 29 by decide)) size32 (by simp [Value.oneCell']) ?_)
  have P2 := Lib.hid (show Blk (World.setCells y1 w1.heap.size 27 [.string sv, .int .i64 sm]) w1.heap.size (ecs { E with id := id, sv := sv, sm := sm } a) 34 from set_midl [.string sv, .int .i64 sm] ((ecs { E with id := id } a).take 27) [.string E.sv, .int .i64 E.sm] [] y1 P1.out rfl)
  have I2 := Lib.hid (I1.out.otherE w1.heap.size 27 [.string sv, .int .i64 sm] A1.out)
  have B6 := Lib.hid (below_setAll C1.out.size [.string sv, .int .i64 sm] 27 _ B5.out)
  have X6 := Lib.hid (X5.out.otherAll w1.heap.size 27 [.string sv, .int .i64 sm] (by have := L1.out; omega))
  have Y6 := Lib.hid (Y5.out.otherAll w1.heap.size 27 [.string sv, .int .i64 sm] (by have := L2.out; omega))
  show KK _ (World.setCells y1 w1.heap.size 27 [.string sv, .int .i64 sm])
  generalize World.setCells y1 w1.heap.size 27 [.string sv, .int .i64 sm] = y2 at P2 I2 B6 X6 Y6 ⊢
  clear P1 I1 B5 X5 Y5
  refine hKK.out _ _ (Y6.out) (fun hH2 => ?_)
  clear hKK KK
  try simp only [Act.put, lsA, ls0, ls1]
  refine wpAnyH_done (by kernel_rfl) ?_ _
  generalize y2 = w7 at P2 I2 B6 X6 Y6 ⊢
  have B7 := B6
  have X7 := X6
  have PF := Lib.hid (show Blk w7 w1.heap.size (ecs F a) 34 by rw [HFD.out]; exact P2.out)
  have IF := Lib.hid (show IsE w7 F a by rw [HFD.out]; exact { I2.out with id := HID.out.1, sv := HID.out.2.1, sm := HID.out.2.2 })
  have HT := Lib.hid (HL.out.below B7.out)
  clear P2 I2 B6 X6 Y6
  go_upto_region 5 with (first | fail)
  refine wp_region_held_drew (S := (fun y => Below w7.heap.size w7 y)) (by kernel_rfl) ((Below.refl w7.heap.size w7).drew) (fun hH0 => ?_)
  generalize hy0 : World.drew _ = y0 at hH0 ⊢
  have RB0 : Hid (Below w7.heap.size w7 y0) := Lib.hid hH0
  clear hy0
  refine mvY 0 (v := .agg (ecs E a).toArray) rfl (yieldsIf_load_mid (by first | rfl | (simp only [*]; rfl)) 34 _ rfl w.heap.size 0 rfl (ecs E a) _ (fun w0 hw0 => (X7.out.below hw0).range) Tryz.underlying34 rfl size34) ?_
  try simp only [Act.put, lsA, ls0, ls1]
  refine mvY 2 (v := .agg (ecs E a).toArray) rfl (yieldsIf_load_mid (by first | rfl | (simp only [*]; rfl)) 34 _ rfl w.heap.size 0 rfl (ecs E a) _ (fun w0 hw0 => (X7.out.below hw0).range) Tryz.underlying34 rfl size34) ?_
  try simp only [Act.put, lsA, ls0, ls1]
  refine mvR 1 rfl (fun KK hKK => ?_)
  go_simp
  (with_reducible refine (H17.out _ HZ.out (B7.out.trans (RB0.out.mono B7.out.size))).mono ?_)
  rintro e0 y1 ⟨rfl, hb⟩
  have RB1 := Lib.hid (RB0.out.trans (hb.mono RB0.out.size))
  clear hb
  refine hKK.out _ _ (RB1.out) (fun hH1 => ?_)
  clear hKK KK
  try simp only [Act.put, lsA, ls0, ls1]
  refine mvR 3 rfl (fun KK hKK => ?_)
  go_simp
  (with_reducible refine (H18.out _ HZ.out (B7.out.trans (RB1.out.mono B7.out.size))).mono ?_)
  rintro e0 y2 ⟨rfl, hb⟩
  have RB2 := Lib.hid (RB1.out.trans (hb.mono RB1.out.size))
  clear hb
  refine hKK.out _ _ (RB2.out) (fun hH2 => ?_)
  clear hKK KK
  try simp only [Act.put, lsA, ls0, ls1]
  refine mvA 4 (v := ?hv1) rfl ?hy1 ?hr1
  case hy1 => (intro w hSw; (try dsimp only at hSw); go_simp; (try with_reducible rfl))
  try simp only [Act.put, lsA, ls0, ls1]
  refine mvA 5 (v := ?hv2) rfl ?hy2 ?hr2
  case hy2 => (intro w hSw; (try dsimp only at hSw); go_simp; (try with_reducible rfl))
  try simp only [Act.put, lsA, ls0, ls1]
  refine mvY 6 (v := .agg (ecs E a).toArray) rfl (yieldsIf_load_mid (by first | rfl | (simp only [*]; rfl)) 34 _ rfl w.heap.size 0 rfl (ecs E a) _ (fun w0 hw0 => (X7.out.below hw0).range) Tryz.underlying34 rfl size34) ?_
  try simp only [Act.put, lsA, ls0, ls1]
  refine mvY 8 (v := .agg (ecs E a).toArray) rfl (yieldsIf_load_mid (by first | rfl | (simp only [*]; rfl)) 34 _ rfl w.heap.size 0 rfl (ecs E a) _ (fun w0 hw0 => (X7.out.below hw0).range) Tryz.underlying34 rfl size34) ?_
  try simp only [Act.put, lsA, ls0, ls1]
  refine mvR 7 rfl (fun KK hKK => ?_)
  go_simp
  (with_reducible refine (H19.out _ HZ.out (B7.out.trans (RB2.out.mono B7.out.size))).mono ?_)
  rintro e0 y3 ⟨rfl, hb⟩
  have RB3 := Lib.hid (RB2.out.trans (hb.mono RB2.out.size))
  clear hb
  refine hKK.out _ _ (RB3.out) (fun hH3 => ?_)
  clear hKK KK
  try simp only [Act.put, lsA, ls0, ls1]
  refine mvR 9 rfl (fun KK hKK => ?_)
  go_simp
  (with_reducible refine (H20.out _ HZ.out (B7.out.trans (RB3.out.mono B7.out.size))).mono ?_)
  rintro e0 y4 ⟨rfl, hb⟩
  have RB4 := Lib.hid (RB3.out.trans (hb.mono RB3.out.size))
  clear hb
  refine hKK.out _ _ (RB4.out) (fun hH4 => ?_)
  clear hKK KK
  try simp only [Act.put, lsA, ls0, ls1]
  refine mvA 10 (v := ?hv3) rfl ?hy3 ?hr3
  case hy3 => (intro w hSw; (try dsimp only at hSw); go_simp; (try with_reducible rfl))
  try simp only [Act.put, lsA, ls0, ls1]
  refine mvA 11 (v := ?hv4) rfl ?hy4 ?hr4
  case hy4 => (intro w hSw; (try dsimp only at hSw); go_simp; (try with_reducible rfl))
  try simp only [Act.put, lsA, ls0, ls1]
  refine mvA 12 (v := ?hv5) rfl ?hy5 ?hr5
  case hy5 => (intro w hSw; (try dsimp only at hSw); go_simp; (try with_reducible rfl))
  try simp only [Act.put, lsA, ls0, ls1]
  refine mvY 13 (v := .agg (ecs E a).toArray) rfl (yieldsIf_load_mid (by first | rfl | (simp only [*]; rfl)) 34 _ rfl w.heap.size 0 rfl (ecs E a) _ (fun w0 hw0 => (X7.out.below hw0).range) Tryz.underlying34 rfl size34) ?_
  try simp only [Act.put, lsA, ls0, ls1]
  refine mvY 15 (v := .agg (ecs E a).toArray) rfl (yieldsIf_load_mid (by first | rfl | (simp only [*]; rfl)) 34 _ rfl w.heap.size 0 rfl (ecs E a) _ (fun w0 hw0 => (X7.out.below hw0).range) Tryz.underlying34 rfl size34) ?_
  try simp only [Act.put, lsA, ls0, ls1]
  refine mvR 14 rfl (fun KK hKK => ?_)
  go_simp
  (with_reducible refine (H21.out _ HZ.out (B7.out.trans (RB4.out.mono B7.out.size))).mono ?_)
  rintro e0 y5 ⟨rfl, hb⟩
  have RB5 := Lib.hid (RB4.out.trans (hb.mono RB4.out.size))
  clear hb
  refine hKK.out _ _ (RB5.out) (fun hH5 => ?_)
  clear hKK KK
  try simp only [Act.put, lsA, ls0, ls1]
  refine mvR 16 rfl (fun KK hKK => ?_)
  go_simp
  (with_reducible refine (H22.out _ HZ.out (B7.out.trans (RB5.out.mono B7.out.size))).mono ?_)
  rintro e0 y6 ⟨rfl, hb⟩
  have RB6 := Lib.hid (RB5.out.trans (hb.mono RB5.out.size))
  clear hb
  refine hKK.out _ _ (RB6.out) (fun hH6 => ?_)
  clear hKK KK
  try simp only [Act.put, lsA, ls0, ls1]
  refine mvA 17 (v := ?hv6) rfl ?hy6 ?hr6
  case hy6 => (intro w hSw; (try dsimp only at hSw); go_simp; (try with_reducible rfl))
  try simp only [Act.put, lsA, ls0, ls1]
  refine mvA 18 (v := ?hv7) rfl ?hy7 ?hr7
  case hy7 => (intro w hSw; (try dsimp only at hSw); go_simp; (try with_reducible rfl))
  try simp only [Act.put, lsA, ls0, ls1]
  refine mvA 19 (v := ?hv8) rfl ?hy8 ?hr8
  case hy8 => (intro w hSw; (try dsimp only at hSw); go_simp; (try with_reducible rfl))
  try simp only [Act.put, lsA, ls0, ls1]
  refine mvY 20 (v := .agg (ecs F a).toArray) rfl (yieldsIf_load_mid (by first | rfl | (simp only [*]; rfl)) 34 _ rfl w1.heap.size 0 rfl (ecs F a) _ (fun w0 hw0 => (PF.out.below hw0).range) Tryz.underlying34 rfl size34) ?_
  try simp only [Act.put, lsA, ls0, ls1]
  refine mvY 22 (v := .agg (ecs E a).toArray) rfl (yieldsIf_load_mid (by first | rfl | (simp only [*]; rfl)) 34 _ rfl w.heap.size 0 rfl (ecs E a) _ (fun w0 hw0 => (X7.out.below hw0).range) Tryz.underlying34 rfl size34) ?_
  try simp only [Act.put, lsA, ls0, ls1]
  refine mvR 21 rfl (fun KK hKK => ?_)
  go_simp
  (with_reducible refine (HFI.out _ HZ.out (IF.out.below RB6.out) (B7.out.trans (RB6.out.mono B7.out.size))).mono ?_)
  rintro e0 y7 ⟨rfl, hb⟩
  have RB7 := Lib.hid (RB6.out.trans (hb.mono RB6.out.size))
  clear hb
  refine hKK.out _ _ (RB7.out) (fun hH7 => ?_)
  clear hKK KK
  try simp only [Act.put, lsA, ls0, ls1]
  refine mvR 23 rfl (fun KK hKK => ?_)
  go_simp
  (with_reducible refine (H19.out _ HZ.out (B7.out.trans (RB7.out.mono B7.out.size))).mono ?_)
  rintro e0 y8 ⟨rfl, hb⟩
  have RB8 := Lib.hid (RB7.out.trans (hb.mono RB7.out.size))
  clear hb
  refine hKK.out _ _ (RB8.out) (fun hH8 => ?_)
  clear hKK KK
  try simp only [Act.put, lsA, ls0, ls1]
  refine mvA 24 (v := ?hv9) rfl ?hy9 ?hr9
  case hy9 => (intro w hSw; (try dsimp only at hSw); go_simp; (try with_reducible rfl))
  try simp only [Act.put, lsA, ls0, ls1]
  refine mvA 25 (v := ?hv10) rfl ?hy10 ?hr10
  case hy10 => (intro w hSw; (try dsimp only at hSw); go_simp; (try with_reducible rfl))
  try simp only [Act.put, lsA, ls0, ls1]
  refine mvA 26 (v := ?hv11) rfl ?hy11 ?hr11
  case hy11 => (intro w hSw; (try dsimp only at hSw); go_simp; (try with_reducible rfl))
  try simp only [Act.put, lsA, ls0, ls1]
  refine mvR 27 rfl (fun KK hKK => ?_)
  go_simp
  (with_reducible refine (lives14 _ (HT.out.below RB8.out)).mono ?_)
  rintro e0 y9 ⟨rfl, hb⟩
  have RB9 := Lib.hid (RB8.out.trans (hb.mono RB8.out.size))
  clear hb
  refine hKK.out _ _ (RB9.out) (fun hH9 => ?_)
  clear hKK KK
  try simp only [Act.put, lsA, ls0, ls1]
  refine mvA 28 (v := ?hv12) rfl ?hy12 ?hr12
  case hy12 => (intro w hSw; (try dsimp only at hSw); go_simp; (try with_reducible rfl))
  try simp only [Act.put, lsA, ls0, ls1]
  refine mvA 29 (v := ?hv13) rfl ?hy13 ?hr13
  case hy13 => (intro w hSw; (try dsimp only at hSw); go_simp; (try with_reducible rfl))
  try simp only [Act.put, lsA, ls0, ls1]
  refine wpAnyH_done (by kernel_rfl) ?_ _
  go_wp2
  go_ret
  exact ⟨rfl, B7.out.trans (RB9.out.mono B7.out.size)⟩
theorem ids_walk (E : Ew) (a : Aw) (id : Int) (sv : ByteArray) (sm : Int) (w : World) (h : IsE w E a) (hid : i64B id) (hsv : sv.size ≤ 9223372036854775807) (hsm : i64B sm) (hl : Lt w) : Calls Tryz.prog 4 #[.agg (ecs E a).toArray, .int .i64 id, .agg #[.string sv, .int .i64 sm]] w fun e w' => e = .returned (.bool true) ∧ Below w.heap.size w w' := by
 by_cases e1 : 100 < sv.size
 ·exact ids_long E a id sv sm w h hid hsv hsm hl (by omega)
 ·exact ids_well E a id sv sm w h hid hsv hsm hl (by omega)
end Go.Proofs.YtablocpcgknmaaaGreatDoor
