/- Strip, Hash, Whole and their references. No condition. -/
import Derived.Test.YtablocpcgknmaaaGreatDoorRPh
import Derived.Test.YtablocpcgknmaaaGreatDoorRV6
import Derived.Test.YtablocpcgknmaaaGreatDoorRK26
import Derived.Test.YtablocpcgknmaaaGreatDoorRK37
import Derived.Test.YtablocpcgknmaaaGreatDoorRTs
namespace Go.Proofs.YtablocpcgknmaaaGreatDoor
open Go.Lib (hid)
open Go Go.RowKit
set_option linter.unusedVariables false
set_option linter.unusedSimpArgs false
set_option maxRecDepth 100000

/-- The sum of bytes. -/
def sumI (zs : List Int) : Int := ((Su.M.fold (Su.M.lo 860922984064492325) zs : Nat) : Int)
theorem byt_sl {w : World} {A : Option Addr} {n c : Nat} {zs : List Int} (h : Cd.Sl w A n c zs) (hn : n ≤ 9223372036854775807) : Su.Byt w A n zs := ⟨h.sz, h.bd, hn, h.cell⟩
theorem sumI_in (zs : List Int) : i64B (sumI zs) := by
 have h := Su.M.fold_lt (Su.M.lo 860922984064492325) zs (Su.M.lo_lt _)
 unfold sumI i64B
 omega
theorem sum49 (A : Option Addr) (n c : Nat) (zs : List Int) (w : World) (h : Cd.Sl w A n c zs) (hn : n ≤ 900000) : Calls Tryz.prog 49 #[.slice A n c] w fun e w' => e = .returned (.int .i64 (sumI zs)) ∧ w = w' := Su.sum_any A n c zs w (byt_sl h (by omega))
def hshE (E : Ew) : Int := sumI (encC E.c)
def strE (E : Ew) : Ew := E.wc (strip E.kd E.c)
def whoB (E : Ew) : Bool := hshE E == E.hs
theorem encC_len {w : World} {C : Cn} {a : Ads} (hc : IsC w C a) (hs : SmE C) : (encC C).length ≤ 800000 := by
 unfold encC
 have l0 := (ent_bd2 hs.tx).2
 have l1 := (eI_bd hc.n).2
 have l2 := (eI_bd hc.tg).2
 have l4 := (ent_bd2 hs.via).2
 have l5 := pTs_len hs.al hs.al2
 have l6 := pTs_len hs.dn hs.dn2
 have l7 : (encL C.us C.ks (nmL C.d C.x3 C.x4 C.x5 C.x6 C.x7 C.x8)).length ≤ 209100 := encL_len (fun p hp => ⟨hs.lv.nm p hp, (hc.lv.fu p hp).2⟩) hc.lv.fk (nm_bd hc.lv.nm) hs.lv.lu hs.lv.lk rfl
 have l3 : ([if C.th then (1 : Int) else 0] : List Int).length = 1 := rfl
 rw [List.length_append] at l5 l6
 simp only [List.length_append]
 omega
set_option maxHeartbeats 4000000 in
theorem hash17 (E : Ew) (a : Aw) (w : World) (h : IsE w E a) (hs : SmE E.c) : Calls Tryz.prog 17 #[.agg (ecs E a).toArray] w fun e w' => e = .returned (.int .i64 (hshE E)) ∧ Below w.heap.size w w' := by
 have BA := hid ((Below.refl w.heap.size w).alloc (Nat.le_refl _) (.cells #[.int .i64 E.id, .string E.rm, .string E.sd, .int .i64 E.kd, .bool E.st, .string E.ky, .int .i64 E.tm, .int .i64 E.dp, .slice a.pA E.pv.length a.pC, .slice a.qA E.au.length a.qC, .string E.c.tx, .int .i64 E.c.n, .int .i64 E.c.tg, .bool E.c.th, .string E.c.via, .slice a.c.aA E.c.al.length a.c.aC, .slice a.c.dA E.c.dn.length a.c.dC, .slice a.c.uA E.c.us.length a.c.uC, .slice a.c.kA E.c.ks.length a.c.kC, .int .i64 E.c.d, .int .i64 E.c.x3, .int .i64 E.c.x4, .int .i64 E.c.x5, .int .i64 E.c.x6, .int .i64 E.c.x7, .int .i64 E.c.x8, .int .i64 E.hs, .string E.sv, .int .i64 E.sm] 34))
 have X0 := hid (blk_new w [.int .i64 E.id, .string E.rm, .string E.sd, .int .i64 E.kd, .bool E.st, .string E.ky, .int .i64 E.tm, .int .i64 E.dp, .slice a.pA E.pv.length a.pC, .slice a.qA E.au.length a.qC, .string E.c.tx, .int .i64 E.c.n, .int .i64 E.c.tg, .bool E.c.th, .string E.c.via, .slice a.c.aA E.c.al.length a.c.aC, .slice a.c.dA E.c.dn.length a.c.dC, .slice a.c.uA E.c.us.length a.c.uC, .slice a.c.kA E.c.ks.length a.c.kC, .int .i64 E.c.d, .int .i64 E.c.x3, .int .i64 E.c.x4, .int .i64 E.c.x5, .int .i64 E.c.x6, .int .i64 E.c.x7, .int .i64 E.c.x8, .int .i64 E.hs, .string E.sv, .int .i64 E.sm] 34)
 have HC := hid (encode29 E.c a.c _ (h.c.below BA.out) hs)
 unfold SlP at HC
 have HL := hid (encC_len h.c hs)
 unfold hshE
 generalize encC E.c = z at HC HL ⊢
 clear h hs
 show Calls Tryz.prog 17 #[.agg #[.int .i64 E.id, .string E.rm, .string E.sd, .int .i64 E.kd, .bool E.st, .string E.ky, .int .i64 E.tm, .int .i64 E.dp, .slice a.pA E.pv.length a.pC, .slice a.qA E.au.length a.qC, .string E.c.tx, .int .i64 E.c.n, .int .i64 E.c.tg, .bool E.c.th, .string E.c.via, .slice a.c.aA E.c.al.length a.c.aC, .slice a.c.dA E.c.dn.length a.c.dC, .slice a.c.uA E.c.us.length a.c.uC, .slice a.c.kA E.c.ks.length a.c.kC, .int .i64 E.c.d, .int .i64 E.c.x3, .int .i64 E.c.x4, .int .i64 E.c.x5, .int .i64 E.c.x6, .int .i64 E.c.x7, .int .i64 E.c.x8, .int .i64 E.hs, .string E.sv, .int .i64 E.sm]] w _
 go_enter Tryz.func17, Tryz.ntmps17
 go_wp2_with (first
  | (refine wpList_load_mid rfl 30 _ rfl w.heap.size 10 rfl (ccs E.c a.c) _ (X0.out.mid 10 16) Tryz.underlying30 rfl size29 ?_)
  | (go_at_call 50; (with_reducible refine HC.out.mono ?_); rintro e w1 ⟨A1, c1, rfl, hs, ho, hb⟩; have S1 := hid hs; have hl := HL.out; have B1 := hid (BA.out.trans (hb.mono BA.out.size)); clear hs hb)
  | (go_at_call 49; refine (sum49 A1 z.length c1 z w1 S1.out (by omega)).mono ?_; rintro e w2 ⟨rfl, rfl⟩)
  | fail)
 go_ret
 exact ⟨rfl, B1.out⟩
set_option maxHeartbeats 4000000 in
theorem whole21 (E : Ew) (a : Aw) (w : World) (h : IsE w E a) (hs : SmE E.c) : Calls Tryz.prog 21 #[.agg (ecs E a).toArray] w fun e w' => e = .returned (.bool (whoB E)) ∧ Below w.heap.size w w' := by
 have BA := hid ((Below.refl w.heap.size w).alloc (Nat.le_refl _) (.cells (ecs E a).toArray 34))
 have X0 := hid (blk_new w (ecs E a) 34)
 have HC := hid (fun y (hb : Below w.heap.size w y) => hash17 E a y (h.below hb) hs)
 unfold whoB
 generalize hshE E = z at HC ⊢
 clear h hs
 generalize hW0 : w.alloc (.cells (ecs E a).toArray 34) = W0 at BA X0
 dsimp only [ecs, z29] at hW0 X0 ⊢
 go_enter Tryz.func21, Tryz.ntmps21
 go_upto_region 1 with (fail)
 refine wp_region_held_drew (S := (fun y => Below W0.heap.size W0 y)) (by kernel_rfl) ((Below.refl W0.heap.size W0).drew) (fun hH0 => ?_)
 generalize hy0 : World.drew _ = y0 at hH0 ⊢
 have RB0 : Hid (Below W0.heap.size W0 y0) := hid hH0
 clear hy0
 refine mvY 0 (v := .agg (ecs E a).toArray) rfl (yieldsIf_load_mid (by rfl) 34 _ rfl w.heap.size 0 rfl (ecs E a) _ (fun w0 hw0 => (X0.out.below hw0).range) Tryz.underlying34 rfl size34) ?_
 try simp only [Act.put, lsA, ls0, ls1]
 refine mvA 2 (v := ?hv1) rfl ?hy1 ?hr1
 case hy1 => (intro w hSw; (try dsimp only at hSw); go_simp; (try with_reducible rfl))
 try simp only [Act.put, lsA, ls0, ls1]
 refine mvA 3 (v := .int .i64 E.hs) rfl (fun w0 hw0 => by have q0 := (X0.out.below hw0).cell (i := 26) rfl; go_simp) ?_
 try simp only [Act.put, lsA, ls0, ls1]
 refine mvR 1 rfl (fun KK hKK => ?_)
 go_simp
 (with_reducible refine (HC.out _ (BA.out.trans (RB0.out.mono BA.out.size))).mono ?_)
 rintro e0 y1 ⟨rfl, hb⟩
 have RB1 := hid (RB0.out.trans (hb.mono RB0.out.size))
 clear hb
 refine hKK.out _ _ (RB1.out) (fun hH1 => ?_)
 clear hKK KK
 try simp only [Act.put, lsA, ls0, ls1]
 refine mvA 4 (v := ?hv2) rfl ?hy2 ?hr2
 case hy2 => (intro w hSw; (try dsimp only at hSw); go_simp; (try with_reducible rfl))
 try simp only [Act.put, lsA, ls0, ls1]
 refine mvA 5 (v := ?hv3) rfl ?hy3 ?hr3
 case hy3 => (intro w hSw; (try dsimp only at hSw); go_simp; (try with_reducible rfl))
 try simp only [Act.put, lsA, ls0, ls1]
 refine wpAnyH_done (by kernel_rfl) ?_ _
 go_wp2
 go_ret
 exact ⟨rfl, BA.out.trans (RB1.out.mono BA.out.size)⟩

theorem store_as34 {ops : Array Oper} {rest : List Oper} {op : Oper} {a : Act} {w : World} {Q : Exit → Act → World → Prop} (hgd : op.guard = none) (ty : TypeId) (x y : Operand) (ho : op.op = .store ty x y) (zs cs : List Value) (hl : cs.length = zs.length) (hx : a.eval x = .pointer (some ⟨w.heap.size, 0, none⟩)) (hy : a.eval y = .agg cs.toArray)
  (hi : (Tryz.prog.info? ty).map (·.size) = some cs.toArray.size) (h1 : cs.toArray.all (·.oneCell') = true)
  (h : ∀ w4, Blk w4 w.heap.size cs ty → Below w.heap.size w w4 → wpList Tryz.prog ops Q rest (a.put op.dst undef) w4) : wpList Tryz.prog ops Q (op :: rest) a (w.alloc (.cells zs.toArray ty)) := by
 refine store_mid_as hgd ty x y ho w.heap.size 0 cs.toArray hx hy ((blk_new w zs ty).there (by rw [List.size_toArray, hl]; exact Nat.le_refl _)) hi h1 ?_
 intro w4 e4
 refine h w4 ?_ ?_
 ·rw [e4, List.toList_toArray]; exact (blk_new w zs ty).setAll cs hl
 ·rw [e4]; exact below_setAll (Nat.le_refl _) _ _ _ ((Below.refl _ _).alloc (Nat.le_refl _) _)
set_option maxHeartbeats 8000000 in
theorem strip23 (E : Ew) (a : Aw) (w : World) (h : IsE w E a) (hs : SmV E) (hl : Lt w) : Calls Tryz.prog 23 #[.agg (ecs E a).toArray] w (ClN (strE E) w) := by
 unfold ClN
 have BA := hid (((Below.refl w.heap.size w).alloc (Nat.le_refl _) (.cells (ecs E a).toArray 34)).alloc (by simp) (.cells z29.toArray 34))
 have X0 := hid ((blk_new w (ecs E a) 34).alloc (.cells z29.toArray 34))
 have R0 := hid (blk_new2 w (.cells (ecs E a).toArray 34) z29 34)
 have HE := hid h
 have HK := hid (fun y (hb : Below w.heap.size w y) => clone54 E a y (h.below hb) hs)
 unfold ClN at HK
 have HC := hid (fun y (hb : Below w.heap.size w y) => strip21 E.kd E.c a.c y (h.c.below hb) hs.c (hl.below hb))
 unfold StN at HC
 have HD := hid (show strE E = E.wc (strip E.kd E.c) from rfl)
 generalize strE E = E2 at HD ⊢
 generalize strip E.kd E.c = C2 at HC HD
 clear h hs hl
 generalize hW0 : (w.alloc (.cells (ecs E a).toArray 34)).alloc (.cells z29.toArray 34) = W0 at BA X0 R0
 dsimp only [ecs, z29] at hW0 X0 R0 ⊢
 go_enter Tryz.func23, Tryz.ntmps23
 go_upto_region 2 with (first
  | (refine wpList_load_mid rfl 34 _ rfl w.heap.size 0 rfl (ecs E a) _ X0.out.range Tryz.underlying34 rfl size34 ?_)
  | (go_at_call 54; (with_reducible refine (HK.out W0 BA.out).mono ?_); rintro e w1 ⟨b, rfl, hi, hb, hn⟩; have I1 := hid hi; have N1 := hid (fun g hg => hn g (Nat.lt_of_lt_of_le hg R0.out.lt)); have B1 := hid (BA.out.trans (hb.mono BA.out.size)); have X1 := hid (X0.out.below hb); have R1 := hid (R0.out.below hb); clear hi hn hb HK)
  | (refine store_as34 rfl 34 _ _ rfl z29 (ecs E b) rfl rfl rfl size34 (ecs_one _ _) ?_; intro w2 hx hb; have P2 := hid hx; have I2 := hid (I1.out.below hb); have A2 := hid (I1.out.ap (Nat.le_refl w1.heap.size)); have B2 := hid (B1.out.trans (hb.mono B1.out.size)); have X2 := hid (X1.out.below hb); have R2 := hid (R1.out.below hb); have L2 := hid (R1.out.lt); clear hx hb I1 X1 R1)
  | fail)
 have y3 := X2.out.cell (i := 3) rfl
 go_upto_region 3 with (first
  | (refine wpList_load_mid rfl 30 _ rfl w.heap.size 10 rfl (ccs E.c a.c) _ (X2.out.mid 10 16) Tryz.underlying30 rfl size29 ?_)
  | (go_at_call 53; (with_reducible refine (HC.out w2 B2.out).mono ?_); rintro e w3 ⟨b1, rfl, hi, hb, hn⟩; have K3 := hid hi; have N3 := hid hn; have P3 := hid (P2.out.below hb); have I3 := hid (I2.out.below hb); have B3 := hid (B2.out.trans (hb.mono B2.out.size)); have R3 := hid (R2.out.below hb); have L3 := hid P2.out.lt; have L4 := hid R2.out.lt; clear hi hn hb HC y3)
  | (refine store_mid_as rfl 30 _ _ rfl w1.heap.size 10 (ccs C2 b1).toArray rfl rfl (Blk.thereAt P3.out 10 16 (show (10 : Nat) + 16 ≤ 29 by decide)) size29 (by simp [Value.oneCell']) ?_; intro u3 eu; have P4 := hid (show Blk u3 w1.heap.size (ecs (E.wc C2) (b.wc b1)) 34 by rw [eu]; exact set_midl (ccs C2 b1) [.int .i64 E.id, .string E.rm, .string E.sd, .int .i64 E.kd, .bool E.st, .string E.ky, .int .i64 E.tm, .int .i64 E.dp, .slice b.pA E.pv.length b.pC, .slice b.qA E.au.length b.qC] (ccs E.c b.c) [.int .i64 E.hs, .string E.sv, .int .i64 E.sm] w3 P3.out rfl); have R4 := hid (show Blk u3 (w.heap.size + 1) [.int .i64 0, .string ⟨#[]⟩, .string ⟨#[]⟩, .int .i64 0, .bool false, .string ⟨#[]⟩, .int .i64 0, .int .i64 0, .slice none 0 0, .slice none 0 0, .string ⟨#[]⟩, .int .i64 0, .int .i64 0, .bool false, .string ⟨#[]⟩, .slice none 0 0, .slice none 0 0, .slice none 0 0, .slice none 0 0, .int .i64 0, .int .i64 0, .int .i64 0, .int .i64 0, .int .i64 0, .int .i64 0, .int .i64 0, .int .i64 0, .string ⟨#[]⟩, .int .i64 0] 34 by rw [eu]; exact R3.out.otherAll _ _ _ (by have := L2.out; omega)); have B4 := hid (show Below w.heap.size w u3 by rw [eu]; exact below_setAll (by have := L2.out; omega) _ _ _ B3.out); have I4 := hid (show IsE u3 E b by rw [eu]; exact I3.out.otherE _ _ _ A2.out); have K4 := hid (show IsC u3 C2 b1 by rw [eu]; exact K3.out.otherC _ _ _ (N3.out _ L3.out)); clear eu I3 K3 P3 R3 B3)
  | fail)
 go_wp2_with (first
  | (refine wpList_load_mid rfl 34 _ rfl w1.heap.size 0 rfl (ecs (E.wc C2) (b.wc b1)) _ P4.out.range Tryz.underlying34 rfl size34 ?_)
  | (refine store_mid_as rfl 34 _ _ rfl (w.heap.size + 1) 0 (ecs (E.wc C2) (b.wc b1)).toArray rfl rfl (Blk.there (n := 29) R4.out (Nat.le_refl 29)) size34 (ecs_one _ _) ?_; intro wz ez; have EZ := hid ez; clear ez)
  | fail)
 (try simp only [Exit.inBlock, Exit.then])
 refine bodyPost_ret (results_cell_mid rfl _ _ (w.heap.size + 1) (ecs (E.wc C2) (b.wc b1)) 34 _ rfl (by rw [EZ.out]; exact Blk.setAll R4.out _ rfl) Tryz.underlying34 rfl size34) rfl ?_
 rw [EZ.out, HD.out]
 have hA : ∀ g, g < w.heap.size + 2 → ApE g (E.wc C2) (b.wc b1) := fun g hg => ⟨(N1.out g (by omega)).pv, (N1.out g (by omega)).au, N3.out g (by have := L4.out; omega)⟩
 have hI : IsE u3 (E.wc C2) (b.wc b1) := { I4.out with c := K4.out }
 exact ⟨b.wc b1, rfl, hI.otherE _ _ _ (hA _ (by omega)), below_setAll (Nat.le_succ _) _ _ _ B4.out, fun g hg => hA g (by omega)⟩
/-- An event whose lists are those of another. -/
def StE (E0 : Ew) (a : Aw) (E : Ew) (w : World) (e : Ending) (w' : World) : Prop := ∃ b, e = .returned (.agg (ecs E b).toArray) ∧ IsE w' E b ∧ Below w.heap.size w w' ∧ ∀ g, ApE g E0 a → ApE g E b
end Go.Proofs.YtablocpcgknmaaaGreatDoor
