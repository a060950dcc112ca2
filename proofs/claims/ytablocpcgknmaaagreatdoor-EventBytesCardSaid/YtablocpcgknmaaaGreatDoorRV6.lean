/- Copies of events, where their lists lie. No condition. -/
import Derived.Test.YtablocpcgknmaaaGreatDoorRPj
import Derived.Test.YtablocpcgknmaaaGreatDoorRK20
import Derived.Test.YtablocpcgknmaaaGreatDoorRK21
namespace Go.Proofs.YtablocpcgknmaaaGreatDoor
open Go.Lib (hid)
open Go Go.RowKit
set_option linter.unusedVariables false
set_option linter.unusedSimpArgs false
set_option maxRecDepth 100000

theorem info3k : (Tryz.prog.info? 3).map (fun i => (i.zero, i.size, i.bytes)) = some (some (.int .i64 0), 1, 8) := by kernel_rfl
set_option maxHeartbeats 1000000 in
theorem clone48 (A : Option Addr) (n c : Nat) (L : Nat → List Value) (w : World) (h : Rws w A n c 1 L) (hb : n * 8 ≤ 140737488355328) :
  Calls Tryz.prog 123 #[.slice A n c] w fun e w' => ∃ A' c', e = .returned (.slice A' n c') ∧ CopyR w w' 3 1 n L A' c' := by
 obtain ⟨i0, hi, hz0, hz1, hz2⟩ := info_parts info3k
 have HI := hid (And.intro hi (And.intro hz0 (And.intro hz1 hz2)))
 clear hi hz0 hz1 hz2
 have kn := fun (w : World) (a : Option Addr) (n c n' c' : Nat) => Lib.run_eql_slice_nil (P := Tryz.prog) w 23 3 a n c n' c' Tryz.underlying23
 cases A with
 | none =>
  obtain ⟨rfl, rfl⟩ := h.nil rfl
  clear h HI hb
  go_enter Tryz.func123, Tryz.ntmps123
  go_wp2
  go_ret
  exact ⟨none, 0, rfl, clone_nil w 3 1 L⟩
 | some ad =>
  have HS := hid (h.src.below ((Below.refl _ w).alloc (Nat.le_refl _) (.cells #[] 3)))
  have HO := hid (World.ownsRow_made (base := w.heap.size) (e := 3) (size := 1) w #[] 0 (Nat.le_refl _) (by decide) (by simp))
  clear h
  go_enter Tryz.func123, Tryz.ntmps123
  go_wp2_with (at_builtin; refine wpList_append_any _ rfl _ _ 23 rfl w.heap.size 3 i0 _ 1 8 Tryz.underlying23 HI.out.1 HI.out.2.1 HI.out.2.2.1 HI.out.2.2.2 rfl (by decide) _ 0 [] rfl HO.out (some ad) n c (flat n L) rfl HS.out (by unfold maxLen; omega) (by omega) (by simp) ?_; intro v3 w3 hgr; have HX := hid (clone_grew hgr); clear hgr)
  go_ret
  obtain ⟨A', c', rfl, hc⟩ := HX.out
  exact ⟨A', c', rfl, hc⟩

section
variable {P : Program}
theorem run_storeAt_one (w : World) (t i : Nat) (ty : TypeId) (v : Value) {cs : List Value} {T : TypeId} (hb : Blk w t cs T) (hi : i < cs.length) (hs : (P.info? ty).map (·.size) = some 1) (hv : v.oneCell' = true) :
  (Instr.storeAt ty (.pointer (some ⟨t, i, none⟩)) v).run P w = .ok () (w.setCell ⟨t, i, none⟩ v) := by
 have h1 : w.cell? ⟨t, i, none⟩ = some cs[i] := hb.cell (List.getElem?_eq_getElem hi)
 have := run_storeCells_cells (P := P) t i [v] 0 w (fun j hj => by
   have : j = 0 := by simpa using hj
   subst this
   simp [h1]) (fun j hj => by
   have : j = 0 := by simpa using hj
   subst this
   exact hb.free i) (fun u hu => by
   have : u = v := by simpa using hu
   subst this
   exact hv)
 have e1 : w.setCells t i [v] = w.setCell ⟨t, i, none⟩ v := rfl
 simp only [Nat.add_zero, e1] at this
 cases hq : P.info? ty with
 | none => simp [hq] at hs
 | some d =>
  have hs1 : d.size = 1 := by simpa [hq] using hs
  have hc : v.cells = #[v] := by
   cases v <;> first | rfl | (simp [Value.oneCell'] at hv; done)
  simp only [Instr.storeAt, Instr.sureAddr, Sem.run_bind, Sem.run_pure, Result.andThen_ok]
  simp [storeVar, sizeOf, typeInfo, hq, hc, hs1, this]
end
theorem store_oneE {P : Program} {ops : Array Oper} {rest : List Oper} {op : Oper} {a : Act} {w : World} {Q : Exit → Act → World → Prop} (hgd : op.guard = none) (ty : TypeId) (x y : Operand) (ho : op.op = .store ty x y)
  (t i : Nat) (v : Value) (cs : List Value) (T : TypeId) (hx : a.eval x = .pointer (some ⟨t, i, none⟩)) (hy : a.eval y = v) (hb : Blk w t cs T) (hi : i < cs.length) (hs : (P.info? ty).map (·.size) = some 1) (hv : v.oneCell' = true)
  (h : ∀ w', w' = w.setCell ⟨t, i, none⟩ v → wpList P ops Q rest (a.put op.dst undef) w') : wpList P ops Q (op :: rest) a w :=
 wpList_plain hgd fun K hK => by
  unfold Oper.wp execOp
  simp only [ho, hx, hy, run_storeAt_one w t i ty v hb hi hs hv, Sem.run_bind, Sem.run_pure, Result.andThen_ok]
  exact hK _ _ (h _ rfl)
theorem sz3 : (Tryz.prog.info? 3).map (·.size) = some 1 := by kernel_rfl
theorem sz4 : (Tryz.prog.info? 4).map (·.size) = some 1 := by kernel_rfl
theorem sz23 : (Tryz.prog.info? 23).map (·.size) = some 1 := by kernel_rfl
theorem set_midl {t : Nat} {T : TypeId} : ∀ (vs pre mid post : List Value) (w : World) (_ : Blk w t (pre ++ (mid ++ post)) T) (_ : vs.length = mid.length), Blk (w.setCells t pre.length vs) t (pre ++ (vs ++ post)) T
 |[], pre, mid, post, w, h, e => by
  have : mid = [] := List.eq_nil_of_length_eq_zero e.symm
  subst this
  exact h
 | v :: vs, pre, [], post, w, h, e => by simp at e
 |v :: vs, pre, p :: mid, post, w, h, e => by
  have h1 := h.set pre.length v
  rw [List.set_append_right _ _ (Nat.le_refl _), Nat.sub_self, List.cons_append, List.set_cons_zero, show pre ++ v :: (mid ++ post) = (pre ++ [v]) ++ (mid ++ post) by simp] at h1
  have h2 := set_midl vs (pre ++ [v]) mid post _ h1 (by simpa using e)
  rw [List.length_append, List.length_singleton, List.append_assoc, List.singleton_append] at h2
  exact h2
/-- An event's list of numbers, new. -/
def NewI (B n : Nat) (A : Option Addr) : Prop := 0 < n → ∀ b off, A = some ⟨b, off, none⟩ → B ≤ b
theorem clone123 (A : Option Addr) (n c : Nat) (l : List Int) (w : World) (h : Ins w A n c l) (hb : n ≤ 1000000) :
  Calls Tryz.prog 123 #[.slice A n c] w fun e w' => ∃ A' c', e = .returned (.slice A' n c') ∧ Ins w' A' n c' l ∧ NewI w.heap.size n A' ∧ Below w.heap.size w w' := by
 refine (clone48 A n c (rowI l) w h.rws (by omega)).mono ?_
 rintro e w' ⟨A', c', rfl, hc⟩
 refine ⟨A', c', rfl, ⟨hc.rows h.rws, h.len, ?_, h.fit⟩, ?_, hc.bel⟩
 ·rcases hc.own.2 with ⟨hv, h1⟩ | ⟨g, cap, cur, hv, _, _, hnc, _⟩
  ·omega
  ·simp only [Value.slice.injEq, true_and] at hv
   rw [hv.2]; exact hnc
 ·intro h0 b off e
  exact (hc.own.lt b (by rw [e]; rfl)).1
/-- The lists are not in the block g. -/
structure ApE (g : Nat) (E : Ew) (a : Aw) : Prop where
 pv : 0 < E.pv.length → ∀ b off, a.pA = some ⟨b, off, none⟩ → b ≠ g
 au : 0 < E.au.length → ∀ b off, a.qA = some ⟨b, off, none⟩ → b ≠ g
 c : ApC g E.c a.c
theorem IsC.ap {w : World} {C : Cn} {a : Ads} (h : IsC w C a) {g : Nat} (hg : w.heap.size ≤ g) : ApC g C a :=
 ⟨h.al.rws.old hg, h.dn.rws.old hg, h.lv.us.old hg, h.lv.ks.old hg⟩
theorem IsE.ap {w : World} {E : Ew} {a : Aw} (h : IsE w E a) {g : Nat} (hg : w.heap.size ≤ g) : ApE g E a := ⟨h.pv.rws.old hg, h.au.rws.old hg, h.c.ap hg⟩
theorem IsE.otherE {w : World} {E : Ew} {a : Aw} (h : IsE w E a) (g o : Nat) (vs : List Value) (hp : ApE g E a) : IsE (w.setCells g o vs) E a :=
 { h with pv := h.pv.otherAll g o vs hp.pv, au := h.au.otherAll g o vs hp.au, c := h.c.otherC g o vs hp.c }
theorem IsE.oneE {w : World} {E : Ew} {a : Aw} (h : IsE w E a) (g i : Nat) (v : Value) (hp : ApE g E a) : IsE (w.setCell ⟨g, i, none⟩ v) E a := h.otherE g i [v] hp
theorem IsC.oneC {w : World} {C : Cn} {a : Ads} (h : IsC w C a) (g i : Nat) (v : Value) (hp : ApC g C a) : IsC (w.setCell ⟨g, i, none⟩ v) C a := h.otherC g i [v] hp
theorem cloneC (C : Cn) (a : Ads) (w : World) (h : IsC w C a) (hs : SmC C) : Calls Tryz.prog 124 #[.agg (ccs C a).toArray] w (StN C w) := by
 have hs2 := hs
 obtain ⟨tx, n, tg, th, via, al, dn, us, ks, d, x3, x4, x5, x6, x7, x8⟩ := C
 obtain ⟨aA, aC, dA, dC, uA, uC, kA, kC⟩ := a
 refine (clone22 tx n tg th via aA al.length aC dA dn.length dC uA us.length uC kA ks.length kC d x3 x4 x5 x6 x7 x8 al dn (fU us) (fK ks) w h.al h.dn h.lv.us h.lv.ks ⟨hs.al, hs.dn, hs.us, hs.ks⟩).mono ?_
 rintro e w' ⟨b, rfl, hi, hp, hb⟩
 exact ⟨b, rfl, ⟨hi.al, hi.dn, ⟨hi.us, hi.ks, h.lv.fu, h.lv.fk, h.lv.nm⟩, h.tx, h.via, h.n, h.tg⟩, hb, fun g hg => ⟨(hp g hg).al, (hp g hg).dn, (hp g hg).us, (hp g hg).ks⟩⟩
/-- An event that is not large. -/
structure SmV (E : Ew) : Prop where
 pv : E.pv.length ≤ 100
 au : E.au.length ≤ 100
 c : SmC E.c
def ClN (E : Ew) (w : World) (e : Ending) (w' : World) : Prop := ∃ b, e = .returned (.agg (ecs E b).toArray) ∧ IsE w' E b ∧ Below w.heap.size w w' ∧ ∀ g, g < w.heap.size → ApE g E b
set_option maxHeartbeats 8000000 in
theorem clone54 (E : Ew) (a : Aw) (w : World) (h : IsE w E a) (hs : SmV E) : Calls Tryz.prog 54 #[.agg (ecs E a).toArray] w (ClN E w) := by
 unfold ClN
 have BA := hid (((Below.refl w.heap.size w).alloc (Nat.le_refl _) (.cells (ecs E a).toArray 34)).alloc (by simp) (.cells z29.toArray 34))
 have X0 := hid ((blk_new w (ecs E a) 34).alloc (.cells z29.toArray 34))
 have R0 := hid (blk_new2 w (.cells (ecs E a).toArray 34) z29 34)
 have HE := hid h
 have HC := hid (fun y (hb : Below w.heap.size w y) => cloneC E.c a.c y (h.c.below hb) hs.c)
 have H1 := hid (fun y (hb : Below w.heap.size w y) => clone123 a.pA E.pv.length a.pC E.pv y (h.pv.below hb) (by have := hs.pv; omega))
 have H2 := hid (fun y (hb : Below w.heap.size w y) => clone123 a.qA E.au.length a.qC E.au y (h.au.below hb) (by have := hs.au; omega))
 clear h hs
 generalize hW0 : (w.alloc (.cells (ecs E a).toArray 34)).alloc (.cells z29.toArray 34) = W0 at BA X0 R0
 dsimp only [ecs, z29] at hW0 X0 R0 ⊢
 have y8 := X0.out.cell (i := 8) rfl
 go_enter Tryz.func54, Tryz.ntmps54
 go_upto_region 2 with (first
  | (go_at_call 123; (with_reducible refine (H1.out W0 BA.out).mono ?_); rintro e w1 ⟨A1, c1, rfl, hi, hn, hb⟩; have I1 := hid hi; have N1 := hid (fun h0 b off e => Nat.le_trans (show w.heap.size + 2 ≤ W0.heap.size from R0.out.lt) (hn h0 b off e)); have B1 := hid (BA.out.trans (hb.mono BA.out.size)); have X1 := hid (X0.out.below hb); have R1 := hid (R0.out.below hb); clear hi hn hb H1 y8)
  | (refine store_oneE rfl 23 _ _ rfl w.heap.size 8 (.slice A1 E.pv.length c1) (ecs E a) 34 rfl rfl X1.out (show (8 : Nat) < 29 by decide) sz23 rfl ?_; intro u1 eu; have X2 := hid (show Blk u1 w.heap.size [.int .i64 E.id, .string E.rm, .string E.sd, .int .i64 E.kd, .bool E.st, .string E.ky, .int .i64 E.tm, .int .i64 E.dp, .slice A1 E.pv.length c1, .slice a.qA E.au.length a.qC, .string E.c.tx, .int .i64 E.c.n, .int .i64 E.c.tg, .bool E.c.th, .string E.c.via, .slice a.c.aA E.c.al.length a.c.aC, .slice a.c.dA E.c.dn.length a.c.dC, .slice a.c.uA E.c.us.length a.c.uC, .slice a.c.kA E.c.ks.length a.c.kC, .int .i64 E.c.d, .int .i64 E.c.x3, .int .i64 E.c.x4, .int .i64 E.c.x5, .int .i64 E.c.x6, .int .i64 E.c.x7, .int .i64 E.c.x8, .int .i64 E.hs, .string E.sv, .int .i64 E.sm] 34 by rw [eu]; exact X1.out.set 8 _); have R2 := hid (show Blk u1 (w.heap.size + 1) [.int .i64 0, .string ⟨#[]⟩, .string ⟨#[]⟩, .int .i64 0, .bool false, .string ⟨#[]⟩, .int .i64 0, .int .i64 0, .slice none 0 0, .slice none 0 0, .string ⟨#[]⟩, .int .i64 0, .int .i64 0, .bool false, .string ⟨#[]⟩, .slice none 0 0, .slice none 0 0, .slice none 0 0, .slice none 0 0, .int .i64 0, .int .i64 0, .int .i64 0, .int .i64 0, .int .i64 0, .int .i64 0, .int .i64 0, .int .i64 0, .string ⟨#[]⟩, .int .i64 0] 34 by rw [eu]; exact R1.out.other ⟨w.heap.size, 8, none⟩ _ (by show w.heap.size + 1 ≠ w.heap.size; omega)); have B2 := hid (show Below w.heap.size w u1 by rw [eu]; exact B1.out.setCell (p := ⟨w.heap.size, 8, none⟩) (Nat.le_refl _) _); have I2 := hid (show Ins u1 A1 E.pv.length c1 E.pv by rw [eu]; exact I1.out.other ⟨w.heap.size, 8, none⟩ _ (fun h0 b off e => by have := N1.out h0 b off e; show b ≠ w.heap.size; omega)); clear eu I1 X1 R1 B1)
  | fail)
 have y9 := X2.out.cell (i := 9) rfl
 go_upto_region 3 with (first
  | (go_at_call 123; (with_reducible refine (H2.out u1 B2.out).mono ?_); rintro e w1 ⟨A2, c2, rfl, hi, hn, hb⟩; have J3 := hid hi; have N2 := hid (fun h0 b off e => Nat.le_trans (show w.heap.size + 2 ≤ u1.heap.size from R2.out.lt) (hn h0 b off e)); have B3 := hid (B2.out.trans (hb.mono B2.out.size)); have X3 := hid (X2.out.below hb); have R3 := hid (R2.out.below hb); have I3 := hid (I2.out.below hb); clear hi hn hb H2 y9)
  | (refine store_oneE rfl 23 _ _ rfl w.heap.size 9 (.slice A2 E.au.length c2) [.int .i64 E.id, .string E.rm, .string E.sd, .int .i64 E.kd, .bool E.st, .string E.ky, .int .i64 E.tm, .int .i64 E.dp, .slice A1 E.pv.length c1, .slice a.qA E.au.length a.qC, .string E.c.tx, .int .i64 E.c.n, .int .i64 E.c.tg, .bool E.c.th, .string E.c.via, .slice a.c.aA E.c.al.length a.c.aC, .slice a.c.dA E.c.dn.length a.c.dC, .slice a.c.uA E.c.us.length a.c.uC, .slice a.c.kA E.c.ks.length a.c.kC, .int .i64 E.c.d, .int .i64 E.c.x3, .int .i64 E.c.x4, .int .i64 E.c.x5, .int .i64 E.c.x6, .int .i64 E.c.x7, .int .i64 E.c.x8, .int .i64 E.hs, .string E.sv, .int .i64 E.sm] 34 rfl rfl X3.out (show (9 : Nat) < 29 by decide) sz23 rfl ?_; intro u2 eu; have X4 := hid (show Blk u2 w.heap.size [.int .i64 E.id, .string E.rm, .string E.sd, .int .i64 E.kd, .bool E.st, .string E.ky, .int .i64 E.tm, .int .i64 E.dp, .slice A1 E.pv.length c1, .slice A2 E.au.length c2, .string E.c.tx, .int .i64 E.c.n, .int .i64 E.c.tg, .bool E.c.th, .string E.c.via, .slice a.c.aA E.c.al.length a.c.aC, .slice a.c.dA E.c.dn.length a.c.dC, .slice a.c.uA E.c.us.length a.c.uC, .slice a.c.kA E.c.ks.length a.c.kC, .int .i64 E.c.d, .int .i64 E.c.x3, .int .i64 E.c.x4, .int .i64 E.c.x5, .int .i64 E.c.x6, .int .i64 E.c.x7, .int .i64 E.c.x8, .int .i64 E.hs, .string E.sv, .int .i64 E.sm] 34 by rw [eu]; exact X3.out.set 9 _); have R4 := hid (show Blk u2 (w.heap.size + 1) [.int .i64 0, .string ⟨#[]⟩, .string ⟨#[]⟩, .int .i64 0, .bool false, .string ⟨#[]⟩, .int .i64 0, .int .i64 0, .slice none 0 0, .slice none 0 0, .string ⟨#[]⟩, .int .i64 0, .int .i64 0, .bool false, .string ⟨#[]⟩, .slice none 0 0, .slice none 0 0, .slice none 0 0, .slice none 0 0, .int .i64 0, .int .i64 0, .int .i64 0, .int .i64 0, .int .i64 0, .int .i64 0, .int .i64 0, .int .i64 0, .string ⟨#[]⟩, .int .i64 0] 34 by rw [eu]; exact R3.out.other ⟨w.heap.size, 9, none⟩ _ (by show w.heap.size + 1 ≠ w.heap.size; omega)); have B4 := hid (show Below w.heap.size w u2 by rw [eu]; exact B3.out.setCell (p := ⟨w.heap.size, 9, none⟩) (Nat.le_refl _) _); have I4 := hid (show Ins u2 A1 E.pv.length c1 E.pv by rw [eu]; exact I3.out.other ⟨w.heap.size, 9, none⟩ _ (fun h0 b off e => by have := N1.out h0 b off e; show b ≠ w.heap.size; omega)); have J4 := hid (show Ins u2 A2 E.au.length c2 E.au by rw [eu]; exact J3.out.other ⟨w.heap.size, 9, none⟩ _ (fun h0 b off e => by have := N2.out h0 b off e; show b ≠ w.heap.size; omega)); clear eu I3 J3 X3 R3 B3)
  | fail)
 go_upto_region 4 with (first
  | (refine wpList_load_mid rfl 30 _ rfl w.heap.size 10 rfl (ccs E.c a.c) _ (X4.out.mid 10 16) Tryz.underlying30 rfl size29 ?_)
  | (go_at_call 124; (with_reducible refine (HC.out u2 B4.out).mono ?_); rintro e w1 ⟨b1, rfl, hi, hb, hn⟩; have K5 := hid hi; have N3 := hid (fun g hg => hn g (Nat.lt_of_lt_of_le hg R4.out.lt)); have B5 := hid (B4.out.trans (hb.mono B4.out.size)); have X5 := hid (X4.out.below hb); have R5 := hid (R4.out.below hb); have I5 := hid (I4.out.below hb); have J5 := hid (J4.out.below hb); clear hi hn hb HC)
  | (refine store_mid_as rfl 30 _ _ rfl w.heap.size 10 (ccs E.c b1).toArray rfl rfl (Blk.thereAt X5.out 10 16 (show (10 : Nat) + 16 ≤ 29 by decide)) size29 (by simp [Value.oneCell']) ?_; intro u3 eu; have X6 := hid (show Blk u3 w.heap.size [.int .i64 E.id, .string E.rm, .string E.sd, .int .i64 E.kd, .bool E.st, .string E.ky, .int .i64 E.tm, .int .i64 E.dp, .slice A1 E.pv.length c1, .slice A2 E.au.length c2, .string E.c.tx, .int .i64 E.c.n, .int .i64 E.c.tg, .bool E.c.th, .string E.c.via, .slice b1.aA E.c.al.length b1.aC, .slice b1.dA E.c.dn.length b1.dC, .slice b1.uA E.c.us.length b1.uC, .slice b1.kA E.c.ks.length b1.kC, .int .i64 E.c.d, .int .i64 E.c.x3, .int .i64 E.c.x4, .int .i64 E.c.x5, .int .i64 E.c.x6, .int .i64 E.c.x7, .int .i64 E.c.x8, .int .i64 E.hs, .string E.sv, .int .i64 E.sm] 34 by rw [eu]; exact set_midl (ccs E.c b1) [.int .i64 E.id, .string E.rm, .string E.sd, .int .i64 E.kd, .bool E.st, .string E.ky, .int .i64 E.tm, .int .i64 E.dp, .slice A1 E.pv.length c1, .slice A2 E.au.length c2] (ccs E.c a.c) [.int .i64 E.hs, .string E.sv, .int .i64 E.sm] w1 X5.out rfl); have R6 := hid (show Blk u3 (w.heap.size + 1) [.int .i64 0, .string ⟨#[]⟩, .string ⟨#[]⟩, .int .i64 0, .bool false, .string ⟨#[]⟩, .int .i64 0, .int .i64 0, .slice none 0 0, .slice none 0 0, .string ⟨#[]⟩, .int .i64 0, .int .i64 0, .bool false, .string ⟨#[]⟩, .slice none 0 0, .slice none 0 0, .slice none 0 0, .slice none 0 0, .int .i64 0, .int .i64 0, .int .i64 0, .int .i64 0, .int .i64 0, .int .i64 0, .int .i64 0, .int .i64 0, .string ⟨#[]⟩, .int .i64 0] 34 by rw [eu]; exact R5.out.otherAll _ _ _ (by omega)); have B6 := hid (show Below w.heap.size w u3 by rw [eu]; exact below_setAll (Nat.le_refl _) _ _ _ B5.out); have I6 := hid (show Ins u3 A1 E.pv.length c1 E.pv by rw [eu]; exact I5.out.otherAll _ _ _ (fun h0 b off e => by have := N1.out h0 b off e; omega)); have J6 := hid (show Ins u3 A2 E.au.length c2 E.au by rw [eu]; exact J5.out.otherAll _ _ _ (fun h0 b off e => by have := N2.out h0 b off e; omega)); have K6 := hid (show IsC u3 E.c b1 by rw [eu]; exact K5.out.otherC _ _ _ (N3.out _ (by omega))); clear eu I5 J5 K5 X5 R5 B5)
  | fail)
 go_wp2_with (first
  | (refine wpList_load_mid rfl 34 _ rfl w.heap.size 0 rfl [.int .i64 E.id, .string E.rm, .string E.sd, .int .i64 E.kd, .bool E.st, .string E.ky, .int .i64 E.tm, .int .i64 E.dp, .slice A1 E.pv.length c1, .slice A2 E.au.length c2, .string E.c.tx, .int .i64 E.c.n, .int .i64 E.c.tg, .bool E.c.th, .string E.c.via, .slice b1.aA E.c.al.length b1.aC, .slice b1.dA E.c.dn.length b1.dC, .slice b1.uA E.c.us.length b1.uC, .slice b1.kA E.c.ks.length b1.kC, .int .i64 E.c.d, .int .i64 E.c.x3, .int .i64 E.c.x4, .int .i64 E.c.x5, .int .i64 E.c.x6, .int .i64 E.c.x7, .int .i64 E.c.x8, .int .i64 E.hs, .string E.sv, .int .i64 E.sm] _ X6.out.range Tryz.underlying34 rfl size34 ?_)
  | (refine store_mid_as rfl 34 _ _ rfl (w.heap.size + 1) 0 (#[.int .i64 E.id, .string E.rm, .string E.sd, .int .i64 E.kd, .bool E.st, .string E.ky, .int .i64 E.tm, .int .i64 E.dp, .slice A1 E.pv.length c1, .slice A2 E.au.length c2, .string E.c.tx, .int .i64 E.c.n, .int .i64 E.c.tg, .bool E.c.th, .string E.c.via, .slice b1.aA E.c.al.length b1.aC, .slice b1.dA E.c.dn.length b1.dC, .slice b1.uA E.c.us.length b1.uC, .slice b1.kA E.c.ks.length b1.kC, .int .i64 E.c.d, .int .i64 E.c.x3, .int .i64 E.c.x4, .int .i64 E.c.x5, .int .i64 E.c.x6, .int .i64 E.c.x7, .int .i64 E.c.x8, .int .i64 E.hs, .string E.sv, .int .i64 E.sm] : Array Value) rfl rfl (Blk.there (n := 29) R6.out (Nat.le_refl 29)) size34 (by simp [Value.oneCell']) ?_; intro wz ez; have EZ := hid ez; clear ez)
  | fail)
 (try simp only [Exit.inBlock, Exit.then])
 refine bodyPost_ret (results_cell_mid rfl _ _ (w.heap.size + 1) [.int .i64 E.id, .string E.rm, .string E.sd, .int .i64 E.kd, .bool E.st, .string E.ky, .int .i64 E.tm, .int .i64 E.dp, .slice A1 E.pv.length c1, .slice A2 E.au.length c2, .string E.c.tx, .int .i64 E.c.n, .int .i64 E.c.tg, .bool E.c.th, .string E.c.via, .slice b1.aA E.c.al.length b1.aC, .slice b1.dA E.c.dn.length b1.dC, .slice b1.uA E.c.us.length b1.uC, .slice b1.kA E.c.ks.length b1.kC, .int .i64 E.c.d, .int .i64 E.c.x3, .int .i64 E.c.x4, .int .i64 E.c.x5, .int .i64 E.c.x6, .int .i64 E.c.x7, .int .i64 E.c.x8, .int .i64 E.hs, .string E.sv, .int .i64 E.sm] 34 _ rfl (by rw [EZ.out]; exact Blk.setAll R6.out _ rfl) Tryz.underlying34 rfl size34) rfl ?_
 rw [EZ.out]
 refine ⟨⟨A1, c1, A2, c2, b1⟩, rfl, { HE.out with pv := I6.out.otherAll _ _ _ (fun h0 b off e => by have := N1.out h0 b off e; omega), au := J6.out.otherAll _ _ _ (fun h0 b off e => by have := N2.out h0 b off e; omega), c := K6.out.otherC _ _ _ (N3.out _ (by omega)) }, below_setAll (Nat.le_succ _) _ _ _ B6.out, fun g hg => ⟨fun h0 b off e => by have := N1.out h0 b off e; omega, fun h0 b off e => by have := N2.out h0 b off e; omega, N3.out g (by omega)⟩⟩
end Go.Proofs.YtablocpcgknmaaaGreatDoor
