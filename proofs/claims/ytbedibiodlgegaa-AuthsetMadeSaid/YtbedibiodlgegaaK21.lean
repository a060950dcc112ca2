/- The reference's From. Bound: 10000 parents. -/
import Derived.Test.YtbedibiodlgegaaK20
namespace Go.Proofs.Ytbedibiodlgegaa
open Go Go.RowKit
set_option linter.unusedVariables false
set_option linter.unusedSimpArgs false

def mt (q : Ky.Rc) (a : Evd) : Bool := isEq (kyE a) q
theorem find_fnd {E : Nat → Evd} {n : Nat} {q : Ky.Rc} : ∀ {ps : List Int}, (fnd E n ps).find? (mt q) = (firstK E n ps q).map fun k => dat (E k)
  | [] => rfl
  | z :: zs => by
    have ih := find_fnd (E := E) (n := n) (q := q) (ps := zs)
    unfold fnd firstK at ih ⊢
    rw [List.filterMap_cons, List.findSome?_cons]
    cases hp : pl E n z with
    | none => rw [hit_none hp]; exact ih
    | some k =>
      show (dat (E k) :: _).find? (mt q) = _
      rw [List.find?_cons]
      by_cases hq : kyE (E k) = q
      · rw [show mt q (dat (E k)) = true from decide_eq_true hq, hit_some hp hq]; rfl
      · rw [show mt q (dat (E k)) = false from decide_eq_false hq, hit_miss hp hq]; exact ih
theorem find_es {E : Nat → Evd} {n : Nat} {q : Ky.Rc} {ps : List Int} {es : List Evd} (h : es.map dat = fnd E n ps) : ((es.find? (mt q)).map dat) = (firstK E n ps q).map fun k => dat (E k) := by
  rw [← find_fnd, ← h, List.find?_map]
  rfl
theorem find_atE {l : List Evd} {f : Evd → Bool} {k : Nat} (hk : k < l.length) (h : f (l.getD k ev0) = true) (hn : ∀ j, j < k → f (l.getD j ev0) = false) : l.find? f = some (l.getD k ev0) := by
  induction l generalizing k with
  | nil => simp at hk
  | cons a r ih =>
    cases k with
    | zero => rw [List.find?_cons, show f a = true from h]; rfl
    | succ k =>
      rw [List.find?_cons, show f a = false from hn 0 (Nat.succ_pos _)]
      exact ih (by simpa using hk) h (fun j hj => hn (j + 1) (by omega))
theorem find_noE {l : List Evd} {f : Evd → Bool} (hn : ∀ j, j < l.length → f (l.getD j ev0) = false) : l.find? f = none := by
  rw [List.find?_eq_none]
  intro x hx
  obtain ⟨j, hj, rfl⟩ := List.getElem_of_mem hx
  have := hn j hj
  rw [List.getD_eq_getElem?_getD, List.getElem?_eq_getElem hj] at this
  rw [show f l[j] = false from this]; decide
set_option maxRecDepth 100000 in
set_option maxHeartbeats 16000000 in
theorem rfrom23 (A : Option Addr) (n c : Nat) (E : Nat → Evd) (e : Evd) (w : World) (h : Evx w A n E) (hw : Wfe e) (h9 : Its w e.a9 e.n9 e.c9 e.p9) (hn : e.n9 ≤ 10000) : Calls Try.prog 23 #[.slice A n c, .agg (cellsE e).toArray] w (EvsP w (fromD E n e)) := by
  show Calls Try.prog 23 #[.slice A n c, .agg #[.int .i64 e.e0, .string e.e1, .string e.e2, .int .i64 e.e3, .bool e.e4, .string e.e5, .int .i64 e.e6, .int .i64 e.e7, .slice e.a8 e.n8 e.c8, .slice e.a9 e.n9 e.c9, .string e.C.tx, .int .i64 e.C.n, .int .i64 e.C.tg, .bool e.C.th, .string e.C.via, .slice e.a.aA e.C.nA e.a.aC, .slice e.a.dA e.C.nD e.a.dC, .slice e.a.uA e.C.lv.nU e.a.uC, .slice e.a.kA e.C.lv.nK e.a.kC, .int .i64 e.C.lv.d, .int .i64 e.C.lv.x3, .int .i64 e.C.lv.x4, .int .i64 e.C.lv.x5, .int .i64 e.C.lv.x6, .int .i64 e.C.lv.x7, .int .i64 e.C.lv.x8, .int .i64 e.e26, .string e.e27, .int .i64 e.e28]] w _
  have BA := Lib.hid ((Below.refl w.heap.size w).alloc (Nat.le_refl _) (.cells #[.int .i64 e.e0, .string e.e1, .string e.e2, .int .i64 e.e3, .bool e.e4, .string e.e5, .int .i64 e.e6, .int .i64 e.e7, .slice e.a8 e.n8 e.c8, .slice e.a9 e.n9 e.c9, .string e.C.tx, .int .i64 e.C.n, .int .i64 e.C.tg, .bool e.C.th, .string e.C.via, .slice e.a.aA e.C.nA e.a.aC, .slice e.a.dA e.C.nD e.a.dC, .slice e.a.uA e.C.lv.nU e.a.uC, .slice e.a.kA e.C.lv.nK e.a.kC, .int .i64 e.C.lv.d, .int .i64 e.C.lv.x3, .int .i64 e.C.lv.x4, .int .i64 e.C.lv.x5, .int .i64 e.C.lv.x6, .int .i64 e.C.lv.x7, .int .i64 e.C.lv.x8, .int .i64 e.e26, .string e.e27, .int .i64 e.e28] 34))
  have XA : Hid (Blk (w.alloc (.cells #[.int .i64 e.e0, .string e.e1, .string e.e2, .int .i64 e.e3, .bool e.e4, .string e.e5, .int .i64 e.e6, .int .i64 e.e7, .slice e.a8 e.n8 e.c8, .slice e.a9 e.n9 e.c9, .string e.C.tx, .int .i64 e.C.n, .int .i64 e.C.tg, .bool e.C.th, .string e.C.via, .slice e.a.aA e.C.nA e.a.aC, .slice e.a.dA e.C.nD e.a.dC, .slice e.a.uA e.C.lv.nU e.a.uC, .slice e.a.kA e.C.lv.nK e.a.kC, .int .i64 e.C.lv.d, .int .i64 e.C.lv.x3, .int .i64 e.C.lv.x4, .int .i64 e.C.lv.x5, .int .i64 e.C.lv.x6, .int .i64 e.C.lv.x7, .int .i64 e.C.lv.x8, .int .i64 e.e26, .string e.e27, .int .i64 e.e28] 34)) w.heap.size (cellsE e) 34) := Lib.hid (blk_new w (cellsE e) 34)
  have H := Lib.hid (h.below BA.out)
  have H9 := Lib.hid (h9.below BA.out)
  have hbig := h.big
  have HL9 := Lib.hid h9.len
  have C13 := Lib.hid (fun u => rkeys13 e u hw)
  have HL := Lib.hid (keys_len e)
  have HKz := Lib.hid (show ∀ q ∈ keysE e, q.id = 0 from Ky.keysL_z _ _ _ _)
  unfold EnsP at C13
  unfold fromD
  generalize keysE e = kl at C13 HL HKz ⊢
  clear h hw h9
  obtain ⟨i0, hi, hz0, hz1, hz2⟩ := info_parts info34s
  have HI := Lib.hid (And.intro hi (And.intro hz0 (And.intro hz1 hz2)))
  clear hi hz0 hz1 hz2
  go_enter Try.func23, Try.ntmps23
  go_upto_region 1 with (fail)
  generalize hwa : w.alloc _ = wa at BA XA H H9 ⊢
  clear hwa
  have R0 := Lib.hid XA.out.range
  go_upto_region 3 with (first
    | (refine wpList_load_mid rfl 34 _ rfl w.heap.size 0 rfl (cellsE e) _ R0.out Try.underlying34 rfl size39 ?_)
    | (go_at_call 13; (with_reducible refine (C13.out _).mono ?_); rintro e1 w4 ⟨A4, c4, rfl, h4, hb⟩; have G4 := Lib.hid h4; have B4 := Lib.hid hb; have k9 := (XA.out.below hb).cell (i := 9) rfl; have HOf := Lib.hid (rof41 A e.a9 n c e.n9 e.c9 E e.p9 w4 (H.out.below hb) (H9.out.below hb) hn); unfold EvsP at HOf; have hfl : (fnd E n e.p9).length ≤ 10000 := (by have := fnd_len E n e.p9; have := HL9.out; omega); generalize hm : (fnd E n e.p9).length = m at HOf hfl; have HM := Lib.hid hm; clear h4 hb hm)
    | (go_at_call 41; (with_reducible refine HOf.out.mono ?_); rintro e1 w5 ⟨A5, c5, es, rfl, hx, he, hb⟩; have F5 := Lib.hid hx; have HFi := Lib.hid (fun q => find_es (q := q) he); have HEl := Lib.hid (show es.length = m by have := congrArg List.length he; rw [List.length_map] at this; exact this.trans HM.out); have G5 := Lib.hid (G4.out.below hb); have B5 := Lib.hid (BA.out.trans ((B4.out.trans (hb.mono B4.out.size)).mono BA.out.size)); clear hx he hb)
    | fail)
  have hll := HL.out
  clear k9 HOf C13 R0 XA H H9 G4 B4 BA HM
  have O5 : Hid (w5.ownsRow w5.heap.size 34 29 (.slice none 0 0) 0 (clE [])) := Lib.hid (World.ownsRow_nil w5 _ _ _)
  go_wp2
  go_loopg [7, 8, 9, 10] kl.length (fun gg s7 s8 _ _ wr => ∃ (kk nf : Nat) (v : Value) (eso : List Evd), kk ≤ kl.length ∧ kl.length - kk ≤ gg ∧ v = s7 ∧ s8 = .int .i64 (kk : Int) ∧ nf ≤ kk ∧ Hid (eso.length = nf) ∧ Hid (wr.ownsRow w5.heap.size 34 29 v nf (clE eso)) ∧ Hid (eso.map dat = fromK E n e.p9 (kl.take kk)) ∧ Hid (Kept wr v eso) ∧ Hid (Below w5.heap.size w5 wr))
  case atStart => exact ⟨0, 0, _, [], Nat.zero_le _, by omega, rfl, rfl, Nat.le_refl _, Lib.hid rfl, O5, Lib.hid rfl, Lib.hid (Kept.nil _ _), Lib.hid (Below.refl _ _)⟩
  case round =>
    obtain ⟨kk, nf, v, eso, hkk, hg, rfl, rfl, hnf, HEo, HO, HEs, HKe, BX⟩ := hrel
    have BW := Lib.hid (B5.out.trans (BX.out.mono B5.out.size))
    by_cases hlt : kk < kl.length
    · obtain ⟨wo, rfl⟩ : ∃ x : World, x = wr := ⟨_, rfl⟩
      have hltz : (kk : Int) < (kl.length : Int) := by omega
      have hk0 : (0 : Int) ≤ (kk : Int) := by omega
      obtain ⟨b3, off3, e3, hb3, h3⟩ := EnR.three (G5.out.below BX.out) hlt
      have HQ := Lib.hid h3
      have HTk := Lib.hid (fromK_snoc (E := E) (n := n) (ps := e.p9) hlt)
      have HFq := Lib.hid (HFi.out (kl.getD kk Ky.t0))
      have HZq := Lib.hid (HKz.out (kl.getD kk Ky.t0) (by rw [Ky.getD_at hlt]; exact List.getElem_mem _))
      generalize kl.getD kk Ky.t0 = q at HQ HTk HFq HZq
      clear h3
      subst e3
      go_wp2
      have hBX := BX.out.size
      go_loopg [7, 9, 10] m (fun gg s7 s9 s10 WQ => ∃ jj : Nat, jj ≤ m ∧ m - jj ≤ gg ∧ s10 = .int .i64 (jj : Int) ∧ ((s9 = .bool false ∧ v = s7 ∧ Hid (∀ j, j < jj → mt q (es.getD j ev0) = false) ∧ Hid (Below wo.heap.size wo WQ)) ∨ (s9 = .bool true ∧ ∃ (v' : Value) (x : Evd), v' = s7 ∧ Hid (WQ.ownsRow w5.heap.size 34 29 v' (nf + 1) (clE (eso ++ [x]))) ∧ Hid ((eso ++ [x]).map dat = fromK E n e.p9 (kl.take (kk + 1))) ∧ Hid (Kept WQ v' (eso ++ [x])) ∧ Hid (Below w5.heap.size w5 WQ))))
      case atStart => exact ⟨0, Nat.zero_le _, by omega, rfl, .inl ⟨rfl, rfl, Lib.hid (fun j hj => absurd hj (Nat.not_lt_zero _)), Lib.hid (Below.refl _ _)⟩⟩
      case round =>
        obtain ⟨jj, hjj, hgg, rfl, hcase⟩ := hrel
        rcases hcase with ⟨rfl, rfl, HJ, BQ⟩ | ⟨rfl, v', x, rfl, O', E', K', B'⟩
        · have BXQ := Lib.hid (BX.out.trans (BQ.out.mono BX.out.size))
          by_cases hl2 : jj < m
          · have hl2z : (jj : Int) < (m : Int) := by omega
            have hj0 : (0 : Int) ≤ (jj : Int) := by omega
            obtain ⟨b5, o5, rfl, _⟩ := F5.out.at_ (by omega)
            have HP := Lib.hid (show ∀ u, Below wr.heap.size wr u → u.cell? ⟨b5, o5 + jj * 29 + 3, none⟩ = some (.int .i64 (es.getD jj ev0).e3) ∧ u.cell? ⟨b5, o5 + jj * 29 + 5, none⟩ = some (.string (es.getD jj ev0).e5) from fun u hb => ⟨((F5.out.below (BXQ.out.trans (hb.mono BXQ.out.size))).parts hl2).1.c3, ((F5.out.below (BXQ.out.trans (hb.mono BXQ.out.size))).parts hl2).1.c5⟩)
            have HQ1 := Lib.hid (fun u (hb : Below wr.heap.size wr u) => HQ.out u (BQ.out.trans (hb.mono BQ.out.size)))
            have HMt := Lib.hid (show mt q (es.getD jj ev0) = decide (Ky.kz (es.getD jj ev0).e3 (es.getD jj ev0).e5 = q) from rfl)
            have HN : Hid (mt q (es.getD jj ev0) = false → ∀ j, j < jj + 1 → mt q (es.getD j ev0) = false) := Lib.hid (fun h j hj => by
              by_cases e : j = jj
              · subst e; exact h
              · exact HJ.out j (by omega))
            have HY : Hid (mt q (es.getD jj ev0) = true → (firstK E n e.p9 q).map (fun k => dat (E k)) = some (dat (es.getD jj ev0))) := Lib.hid (fun h => by
              rw [← HFq.out, find_atE (l := es) (f := mt q) (k := jj) (by rw [HEl.out]; exact hl2) h HJ.out]; rfl)
            obtain ⟨kd, hkd⟩ : ∃ kd, (es.getD jj ev0).e3 = kd := ⟨_, rfl⟩
            obtain ⟨ke, hke⟩ : ∃ ke, (es.getD jj ev0).e5 = ke := ⟨_, rfl⟩
            rw [hkd, hke] at HP HMt
            clear hkd hke
            by_cases z1 : kd = q.k
            · have z1' : (kd == q.k) = true := beq_iff_eq.2 z1
              by_cases z2 : ke.toList = q.key.toList
              · have z2' : (ke.toList == q.key.toList) = true := beq_iff_eq.2 z2
                have HF1 := Lib.hid (HY.out (by rw [HMt.out]; exact decide_eq_true ((Ky.eq_iff3 (Ky.kz kd ke) q).2 ⟨z1, z2, HZq.out.symm⟩)))
                clear z1 z2
                go_upto_region 11 with (fail)
                refine wp_region_held_drew (S := (fun y => Below wr.heap.size wr y)) (by kernel_rfl) ((Below.refl wr.heap.size wr).drew) (fun hH0 => ?_)
                generalize hy0 : World.drew _ = y0 at hH0 ⊢
                have RB0 : Hid (Below wr.heap.size wr y0) := Lib.hid hH0
                clear hy0
                refine wpAnyH_take (i := 0) (oi := ({ dst := some 33, op := Op.move (Operand.tmp 6), type := 44, pos := "ref.go:103", after := #[], guard := none } : Oper)) (v := ?hv1) rfl (by kernel_rfl) (by kernel_rfl) (by kernel_rfl) (fun _ _ _ h => h) (Or.inl ⟨by rfl, ?hy1⟩) (by assumption) ?hr1
                case hy1 => (intro w hSw; (try dsimp only at hSw); go_simp; (try with_reducible rfl))
                try simp only [Act.put, List.setIfInBounds_toArray, List.set_cons_zero, List.set_cons_succ]
                refine wpAnyH_take (i := 1) (oi := ({ dst := some 34, op := Op.move (Operand.tmp 10), type := 3, pos := "ref.go:103", after := #[], guard := none } : Oper)) (v := ?hv2) rfl (by kernel_rfl) (by kernel_rfl) (by kernel_rfl) (fun _ _ _ h => h) (Or.inl ⟨by rfl, ?hy2⟩) (by assumption) ?hr2
                case hy2 => (intro w hSw; (try dsimp only at hSw); go_simp; (try with_reducible rfl))
                try simp only [Act.put, List.setIfInBounds_toArray, List.set_cons_zero, List.set_cons_succ]
                refine wpAnyH_take (i := 2) (oi := ({ dst := some 35, op := Op.indexAddr 44 (Operand.tmp 33) (Operand.tmp 34), type := 0, pos := "ref.go:103", after := #[{ on := 0, ground := Ground.data }, { on := 1, ground := Ground.data }], guard := none } : Oper)) (v := ?hv3) rfl (by kernel_rfl) (by kernel_rfl) (by kernel_rfl) (fun _ _ _ h => h) (Or.inl ⟨by rfl, ?hy3⟩) (by assumption) ?hr3
                case hy3 => (intro w hSw; (try dsimp only at hSw); go_simp; (try with_reducible rfl))
                try simp only [Act.put, List.setIfInBounds_toArray, List.set_cons_zero, List.set_cons_succ]
                refine wpAnyH_take (i := 3) (oi := ({ dst := some 36, op := Op.fieldAddr 34 (Operand.tmp 35) 3, type := 0, pos := "ref.go:103", after := #[{ on := 2, ground := Ground.data }], guard := none } : Oper)) (v := ?hv4) rfl (by kernel_rfl) (by kernel_rfl) (by kernel_rfl) (fun _ _ _ h => h) (Or.inl ⟨by rfl, ?hy4⟩) (by assumption) ?hr4
                case hy4 => (intro w hSw; (try dsimp only at hSw); go_simp; (try with_reducible rfl))
                try simp only [Act.put, List.setIfInBounds_toArray, List.set_cons_zero, List.set_cons_succ]
                refine wpAnyH_take (i := 4) (oi := ({ dst := some 37, op := Op.load 22 (Operand.tmp 36), type := 22, pos := "ref.go:103", after := #[{ on := 3, ground := Ground.data }], guard := none } : Oper)) (v := .int .i64 kd) rfl (by kernel_rfl) (by kernel_rfl) (by kernel_rfl) (fun _ _ _ h => h) (Or.inl ⟨by rfl, fun w0 hw0 => by obtain ⟨q0, q1⟩ := HP.out w0 hw0; go_simp⟩) (by assumption) ?_
                try simp only [Act.put, List.setIfInBounds_toArray, List.set_cons_zero, List.set_cons_succ]
                refine wpAnyH_take (i := 5) (oi := ({ dst := some 38, op := Op.move (Operand.tmp 5), type := 37, pos := "ref.go:103", after := #[], guard := none } : Oper)) (v := ?hv5) rfl (by kernel_rfl) (by kernel_rfl) (by kernel_rfl) (fun _ _ _ h => h) (Or.inl ⟨by rfl, ?hy5⟩) (by assumption) ?hr5
                case hy5 => (intro w hSw; (try dsimp only at hSw); go_simp; (try with_reducible rfl))
                try simp only [Act.put, List.setIfInBounds_toArray, List.set_cons_zero, List.set_cons_succ]
                refine wpAnyH_take (i := 6) (oi := ({ dst := some 39, op := Op.move (Operand.tmp 8), type := 3, pos := "ref.go:103", after := #[], guard := none } : Oper)) (v := ?hv6) rfl (by kernel_rfl) (by kernel_rfl) (by kernel_rfl) (fun _ _ _ h => h) (Or.inl ⟨by rfl, ?hy6⟩) (by assumption) ?hr6
                case hy6 => (intro w hSw; (try dsimp only at hSw); go_simp; (try with_reducible rfl))
                try simp only [Act.put, List.setIfInBounds_toArray, List.set_cons_zero, List.set_cons_succ]
                refine wpAnyH_take (i := 7) (oi := ({ dst := some 40, op := Op.indexAddr 37 (Operand.tmp 38) (Operand.tmp 39), type := 0, pos := "ref.go:103", after := #[{ on := 5, ground := Ground.data }, { on := 6, ground := Ground.data }], guard := none } : Oper)) (v := ?hv7) rfl (by kernel_rfl) (by kernel_rfl) (by kernel_rfl) (fun _ _ _ h => h) (Or.inl ⟨by rfl, ?hy7⟩) (by assumption) ?hr7
                case hy7 => (intro w hSw; (try dsimp only at hSw); go_simp; (try with_reducible rfl))
                try simp only [Act.put, List.setIfInBounds_toArray, List.set_cons_zero, List.set_cons_succ]
                refine wpAnyH_take (i := 8) (oi := ({ dst := some 41, op := Op.fieldAddr 56 (Operand.tmp 40) 0, type := 0, pos := "ref.go:103", after := #[{ on := 7, ground := Ground.data }], guard := none } : Oper)) (v := ?hv8) rfl (by kernel_rfl) (by kernel_rfl) (by kernel_rfl) (fun _ _ _ h => h) (Or.inl ⟨by rfl, ?hy8⟩) (by assumption) ?hr8
                case hy8 => (intro w hSw; (try dsimp only at hSw); go_simp; (try with_reducible rfl))
                try simp only [Act.put, List.setIfInBounds_toArray, List.set_cons_zero, List.set_cons_succ]
                refine wpAnyH_take (i := 9) (oi := ({ dst := some 42, op := Op.load 22 (Operand.tmp 41), type := 22, pos := "ref.go:103", after := #[{ on := 8, ground := Ground.data }], guard := none } : Oper)) (v := .int .i64 q.k) rfl (by kernel_rfl) (by kernel_rfl) (by kernel_rfl) (fun _ _ _ h => h) (Or.inl ⟨by rfl, fun w0 hw0 => by obtain ⟨q0, q1, q2⟩ := HQ1.out w0 hw0; go_simp⟩) (by assumption) ?_
                try simp only [Act.put, List.setIfInBounds_toArray, List.set_cons_zero, List.set_cons_succ]
                refine wpAnyH_take (i := 10) (oi := ({ dst := some 43, op := Op.binOp BinOp.eql 22 (Operand.tmp 37) (Operand.tmp 42) 22, type := 4, pos := "ref.go:103", after := #[{ on := 4, ground := Ground.data }, { on := 9, ground := Ground.data }], guard := none } : Oper)) (v := ?hv9) rfl (by kernel_rfl) (by kernel_rfl) (by kernel_rfl) (fun _ _ _ h => h) (Or.inl ⟨by rfl, ?hy9⟩) (by assumption) ?hr9
                case hy9 => (intro w hSw; (try dsimp only at hSw); go_simp; (try with_reducible rfl))
                try simp only [Act.put, List.setIfInBounds_toArray, List.set_cons_zero, List.set_cons_succ]
                refine wpAnyH_take (i := 11) (oi := ({ dst := some 44, op := Op.move (Operand.tmp 43), type := 4, pos := "ref.go:103", after := #[{ on := 10, ground := Ground.data }], guard := none } : Oper)) (v := ?hv10) rfl (by kernel_rfl) (by kernel_rfl) (by kernel_rfl) (fun _ _ _ h => h) (Or.inl ⟨by rfl, ?hy10⟩) (by assumption) ?hr10
                case hy10 => (intro w hSw; (try dsimp only at hSw); go_simp; (try with_reducible rfl))
                try simp only [Act.put, List.setIfInBounds_toArray, List.set_cons_zero, List.set_cons_succ]
                refine wpAnyH_take (i := 12) (oi := ({ dst := some 45, op := Op.move (Operand.tmp 6), type := 44, pos := "ref.go:103", after := #[{ on := 11, ground := Ground.guard }], guard := some (11, true) } : Oper)) (v := ?hv11) rfl (by kernel_rfl) (by kernel_rfl) (by kernel_rfl) (fun _ _ _ h => h) (Or.inl ⟨by rfl, ?hy11⟩) (by assumption) ?hr11
                case hy11 => (intro w hSw; (try dsimp only at hSw); go_simp; (try with_reducible rfl))
                try simp only [Act.put, List.setIfInBounds_toArray, List.set_cons_zero, List.set_cons_succ]
                refine wpAnyH_take (i := 13) (oi := ({ dst := some 46, op := Op.move (Operand.tmp 10), type := 3, pos := "ref.go:103", after := #[{ on := 11, ground := Ground.guard }], guard := some (11, true) } : Oper)) (v := ?hv12) rfl (by kernel_rfl) (by kernel_rfl) (by kernel_rfl) (fun _ _ _ h => h) (Or.inl ⟨by rfl, ?hy12⟩) (by assumption) ?hr12
                case hy12 => (intro w hSw; (try dsimp only at hSw); go_simp; (try with_reducible rfl))
                try simp only [Act.put, List.setIfInBounds_toArray, List.set_cons_zero, List.set_cons_succ]
                refine wpAnyH_take (i := 14) (oi := ({ dst := some 47, op := Op.indexAddr 44 (Operand.tmp 45) (Operand.tmp 46), type := 0, pos := "ref.go:103", after := #[{ on := 12, ground := Ground.data }, { on := 13, ground := Ground.data }, { on := 11, ground := Ground.guard }], guard := some (11, true) } : Oper)) (v := ?hv13) rfl (by kernel_rfl) (by kernel_rfl) (by kernel_rfl) (fun _ _ _ h => h) (Or.inl ⟨by rfl, ?hy13⟩) (by assumption) ?hr13
                case hy13 => (intro w hSw; (try dsimp only at hSw); go_simp; (try with_reducible rfl))
                try simp only [Act.put, List.setIfInBounds_toArray, List.set_cons_zero, List.set_cons_succ]
                refine wpAnyH_take (i := 15) (oi := ({ dst := some 48, op := Op.fieldAddr 34 (Operand.tmp 47) 5, type := 0, pos := "ref.go:103", after := #[{ on := 14, ground := Ground.data }, { on := 11, ground := Ground.guard }], guard := some (11, true) } : Oper)) (v := ?hv14) rfl (by kernel_rfl) (by kernel_rfl) (by kernel_rfl) (fun _ _ _ h => h) (Or.inl ⟨by rfl, ?hy14⟩) (by assumption) ?hr14
                case hy14 => (intro w hSw; (try dsimp only at hSw); go_simp; (try with_reducible rfl))
                try simp only [Act.put, List.setIfInBounds_toArray, List.set_cons_zero, List.set_cons_succ]
                refine wpAnyH_take (i := 16) (oi := ({ dst := some 49, op := Op.load 9 (Operand.tmp 48), type := 9, pos := "ref.go:103", after := #[{ on := 15, ground := Ground.data }, { on := 11, ground := Ground.guard }], guard := some (11, true) } : Oper)) (v := .string ke) rfl (by kernel_rfl) (by kernel_rfl) (by kernel_rfl) (fun _ _ _ h => h) (Or.inl ⟨by rfl, fun w0 hw0 => by obtain ⟨q0, q1⟩ := HP.out w0 hw0; go_simp⟩) (by assumption) ?_
                try simp only [Act.put, List.setIfInBounds_toArray, List.set_cons_zero, List.set_cons_succ]
                refine wpAnyH_take (i := 17) (oi := ({ dst := some 50, op := Op.move (Operand.tmp 5), type := 37, pos := "ref.go:103", after := #[{ on := 11, ground := Ground.guard }], guard := some (11, true) } : Oper)) (v := ?hv15) rfl (by kernel_rfl) (by kernel_rfl) (by kernel_rfl) (fun _ _ _ h => h) (Or.inl ⟨by rfl, ?hy15⟩) (by assumption) ?hr15
                case hy15 => (intro w hSw; (try dsimp only at hSw); go_simp; (try with_reducible rfl))
                try simp only [Act.put, List.setIfInBounds_toArray, List.set_cons_zero, List.set_cons_succ]
                refine wpAnyH_take (i := 18) (oi := ({ dst := some 51, op := Op.move (Operand.tmp 8), type := 3, pos := "ref.go:103", after := #[{ on := 11, ground := Ground.guard }], guard := some (11, true) } : Oper)) (v := ?hv16) rfl (by kernel_rfl) (by kernel_rfl) (by kernel_rfl) (fun _ _ _ h => h) (Or.inl ⟨by rfl, ?hy16⟩) (by assumption) ?hr16
                case hy16 => (intro w hSw; (try dsimp only at hSw); go_simp; (try with_reducible rfl))
                try simp only [Act.put, List.setIfInBounds_toArray, List.set_cons_zero, List.set_cons_succ]
                refine wpAnyH_take (i := 19) (oi := ({ dst := some 52, op := Op.indexAddr 37 (Operand.tmp 50) (Operand.tmp 51), type := 0, pos := "ref.go:103", after := #[{ on := 17, ground := Ground.data }, { on := 18, ground := Ground.data }, { on := 11, ground := Ground.guard }], guard := some (11, true) } : Oper)) (v := ?hv17) rfl (by kernel_rfl) (by kernel_rfl) (by kernel_rfl) (fun _ _ _ h => h) (Or.inl ⟨by rfl, ?hy17⟩) (by assumption) ?hr17
                case hy17 => (intro w hSw; (try dsimp only at hSw); go_simp; (try with_reducible rfl))
                try simp only [Act.put, List.setIfInBounds_toArray, List.set_cons_zero, List.set_cons_succ]
                refine wpAnyH_take (i := 20) (oi := ({ dst := some 53, op := Op.fieldAddr 56 (Operand.tmp 52) 1, type := 0, pos := "ref.go:103", after := #[{ on := 19, ground := Ground.data }, { on := 11, ground := Ground.guard }], guard := some (11, true) } : Oper)) (v := ?hv18) rfl (by kernel_rfl) (by kernel_rfl) (by kernel_rfl) (fun _ _ _ h => h) (Or.inl ⟨by rfl, ?hy18⟩) (by assumption) ?hr18
                case hy18 => (intro w hSw; (try dsimp only at hSw); go_simp; (try with_reducible rfl))
                try simp only [Act.put, List.setIfInBounds_toArray, List.set_cons_zero, List.set_cons_succ]
                refine wpAnyH_take (i := 21) (oi := ({ dst := some 54, op := Op.load 9 (Operand.tmp 53), type := 9, pos := "ref.go:103", after := #[{ on := 20, ground := Ground.data }, { on := 11, ground := Ground.guard }], guard := some (11, true) } : Oper)) (v := .string q.key) rfl (by kernel_rfl) (by kernel_rfl) (by kernel_rfl) (fun _ _ _ h => h) (Or.inl ⟨by rfl, fun w0 hw0 => by obtain ⟨q0, q1, q2⟩ := HQ1.out w0 hw0; go_simp⟩) (by assumption) ?_
                try simp only [Act.put, List.setIfInBounds_toArray, List.set_cons_zero, List.set_cons_succ]
                refine wpAnyH_take (i := 22) (oi := ({ dst := some 55, op := Op.binOp BinOp.eql 9 (Operand.tmp 49) (Operand.tmp 54) 9, type := 4, pos := "ref.go:103", after := #[{ on := 16, ground := Ground.data }, { on := 21, ground := Ground.data }, { on := 11, ground := Ground.guard }], guard := some (11, true) } : Oper)) (v := ?hv19) rfl (by kernel_rfl) (by kernel_rfl) (by kernel_rfl) (fun _ _ _ h => h) (Or.inl ⟨by rfl, ?hy19⟩) (by assumption) ?hr19
                case hy19 => (intro w hSw; (try dsimp only at hSw); go_simp; (try with_reducible rfl))
                try simp only [Act.put, List.setIfInBounds_toArray, List.set_cons_zero, List.set_cons_succ]
                refine wpAnyH_take (i := 23) (oi := ({ dst := some 56, op := Op.pick (Operand.tmp 44) (Operand.tmp 55) (Operand.const (Value.bool false)), type := 4, pos := "ref.go:103", after := #[{ on := 11, ground := Ground.data }, { on := 22, ground := Ground.data }], guard := none } : Oper)) (v := ?hv20) rfl (by kernel_rfl) (by kernel_rfl) (by kernel_rfl) (fun _ _ _ h => h) (Or.inl ⟨by rfl, ?hy20⟩) (by assumption) ?hr20
                case hy20 => (intro w hSw; (try dsimp only at hSw); go_simp; (try with_reducible rfl))
                try simp only [Act.put, List.setIfInBounds_toArray, List.set_cons_zero, List.set_cons_succ]
                refine wpAnyH_done (by kernel_rfl) ?_ _
                have CY := Lib.hid (BQ.out.trans (RB0.out.mono BQ.out.size))
                have BY := Lib.hid (BX.out.trans (CY.out.mono BX.out.size))
                have FY := Lib.hid (F5.out.below BY.out)
                have RY := Lib.hid (show y0.rangeAt b5 (o5 + jj * 29) (cellsE (es.getD jj ev0)) by obtain ⟨b, o, e, r⟩ := FY.out.get hl2; cases e; exact r.out)
                have HBx := Lib.hid (FY.out.beh hl2)
                have HB0 := Lib.hid (F5.out.beh hl2)
                have HWx := Lib.hid (FY.out.wf jj hl2)
                have BYa := Lib.hid (BY.out.alloc BY.out.size (.cells (cellsE (es.getD jj ev0)).toArray 34))
                have OYa := Lib.hid ((own_keep HO.out (fun b _ hl => CY.out.block b hl)).alloc (.cells (cellsE (es.getD jj ev0)).toArray 34))
                have HAx := Lib.hid (fun g (hg : v.ownBlock = some g) => HB0.out.apart (HO.out.lt g hg).1)
                have KY := Lib.hid (((HKe.out.below CY.out).below ((Below.refl _ y0).alloc (Nat.le_refl _) (.cells (cellsE (es.getD jj ev0)).toArray 34))).snoc (HBx.out.below ((Below.refl _ y0).alloc (Nat.le_refl _) _)) HWx.out HAx.out)
                have HTx := Lib.hid (show eso.map dat ++ [dat (es.getD jj ev0)] = fromK E n e.p9 (kl.take (kk + 1)) by rw [HEs.out, HTk.out, HF1.out]; rfl)
                have hnf' := hnf
                clear HP HQ1 HN HY HAx HBx HB0
                generalize es.getD jj ev0 = x at RY HWx BYa OYa KY HTx
                go_wp2_with (first
                  | (refine wpList_load_mid rfl 34 _ rfl b5 (o5 + jj * 29) rfl (cellsE x) _ RY.out Try.underlying34 rfl size39 ?_)
                  | (refine wpList_buildSliceTo rfl 44 34 1 _ rfl y0.heap.size rfl _ rfl Try.underlying44 (cellsE x).toArray (built34 x) ?_)
                  | (at_builtin; refine wpList_append_any _ rfl _ _ 44 rfl w5.heap.size 34 i0 _ 29 376 Try.underlying44 HI.out.1 HI.out.2.1 HI.out.2.2.1 HI.out.2.2.2 rfl (by decide) v nf (clE eso) rfl OYa.out (some ⟨y0.heap.size, 0, none⟩) 1 1 (cellsE x) rfl (srcE y0 x) (by unfold maxLen; omega) (by omega) BYa.out.size ?_; intro v6 w6 hgr; have B6 := Lib.hid (hgr.below BYa.out OYa.out); have O6 := Lib.hid hgr.own; have K6 := Lib.hid (KY.out.grew hgr); clear hgr; rw [clE_snoc] at O6)
                  | go_in)
                go_roundg (m - (jj + 1))
                case measure => omega
                case rel => exact ⟨jj + 1, by omega, by omega, by go_num, .inr ⟨rfl, v6, x, rfl, O6, Lib.hid (by rw [List.map_append]; exact HTx.out), K6, B6⟩⟩
              · have z2' : (ke.toList == q.key.toList) = false := beq_eq_false_iff_ne.2 z2
                have HN2 := Lib.hid (HN.out (by rw [HMt.out]; exact decide_eq_false (fun h => z2 ((Ky.eq_iff3 (Ky.kz kd ke) q).1 h).2.1)))
                clear HN HY z1 z2
                go_upto_region 11 with (fail)
                refine wp_region_held_drew (S := (fun y => Below wr.heap.size wr y)) (by kernel_rfl) ((Below.refl wr.heap.size wr).drew) (fun hH0 => ?_)
                generalize hy0 : World.drew _ = y0 at hH0 ⊢
                have RB0 : Hid (Below wr.heap.size wr y0) := Lib.hid hH0
                clear hy0
                refine wpAnyH_take (i := 0) (oi := ({ dst := some 33, op := Op.move (Operand.tmp 6), type := 44, pos := "ref.go:103", after := #[], guard := none } : Oper)) (v := ?hv21) rfl (by kernel_rfl) (by kernel_rfl) (by kernel_rfl) (fun _ _ _ h => h) (Or.inl ⟨by rfl, ?hy21⟩) (by assumption) ?hr21
                case hy21 => (intro w hSw; (try dsimp only at hSw); go_simp; (try with_reducible rfl))
                try simp only [Act.put, List.setIfInBounds_toArray, List.set_cons_zero, List.set_cons_succ]
                refine wpAnyH_take (i := 1) (oi := ({ dst := some 34, op := Op.move (Operand.tmp 10), type := 3, pos := "ref.go:103", after := #[], guard := none } : Oper)) (v := ?hv22) rfl (by kernel_rfl) (by kernel_rfl) (by kernel_rfl) (fun _ _ _ h => h) (Or.inl ⟨by rfl, ?hy22⟩) (by assumption) ?hr22
                case hy22 => (intro w hSw; (try dsimp only at hSw); go_simp; (try with_reducible rfl))
                try simp only [Act.put, List.setIfInBounds_toArray, List.set_cons_zero, List.set_cons_succ]
                refine wpAnyH_take (i := 2) (oi := ({ dst := some 35, op := Op.indexAddr 44 (Operand.tmp 33) (Operand.tmp 34), type := 0, pos := "ref.go:103", after := #[{ on := 0, ground := Ground.data }, { on := 1, ground := Ground.data }], guard := none } : Oper)) (v := ?hv23) rfl (by kernel_rfl) (by kernel_rfl) (by kernel_rfl) (fun _ _ _ h => h) (Or.inl ⟨by rfl, ?hy23⟩) (by assumption) ?hr23
                case hy23 => (intro w hSw; (try dsimp only at hSw); go_simp; (try with_reducible rfl))
                try simp only [Act.put, List.setIfInBounds_toArray, List.set_cons_zero, List.set_cons_succ]
                refine wpAnyH_take (i := 3) (oi := ({ dst := some 36, op := Op.fieldAddr 34 (Operand.tmp 35) 3, type := 0, pos := "ref.go:103", after := #[{ on := 2, ground := Ground.data }], guard := none } : Oper)) (v := ?hv24) rfl (by kernel_rfl) (by kernel_rfl) (by kernel_rfl) (fun _ _ _ h => h) (Or.inl ⟨by rfl, ?hy24⟩) (by assumption) ?hr24
                case hy24 => (intro w hSw; (try dsimp only at hSw); go_simp; (try with_reducible rfl))
                try simp only [Act.put, List.setIfInBounds_toArray, List.set_cons_zero, List.set_cons_succ]
                refine wpAnyH_take (i := 4) (oi := ({ dst := some 37, op := Op.load 22 (Operand.tmp 36), type := 22, pos := "ref.go:103", after := #[{ on := 3, ground := Ground.data }], guard := none } : Oper)) (v := .int .i64 kd) rfl (by kernel_rfl) (by kernel_rfl) (by kernel_rfl) (fun _ _ _ h => h) (Or.inl ⟨by rfl, fun w0 hw0 => by obtain ⟨q0, q1⟩ := HP.out w0 hw0; go_simp⟩) (by assumption) ?_
                try simp only [Act.put, List.setIfInBounds_toArray, List.set_cons_zero, List.set_cons_succ]
                refine wpAnyH_take (i := 5) (oi := ({ dst := some 38, op := Op.move (Operand.tmp 5), type := 37, pos := "ref.go:103", after := #[], guard := none } : Oper)) (v := ?hv25) rfl (by kernel_rfl) (by kernel_rfl) (by kernel_rfl) (fun _ _ _ h => h) (Or.inl ⟨by rfl, ?hy25⟩) (by assumption) ?hr25
                case hy25 => (intro w hSw; (try dsimp only at hSw); go_simp; (try with_reducible rfl))
                try simp only [Act.put, List.setIfInBounds_toArray, List.set_cons_zero, List.set_cons_succ]
                refine wpAnyH_take (i := 6) (oi := ({ dst := some 39, op := Op.move (Operand.tmp 8), type := 3, pos := "ref.go:103", after := #[], guard := none } : Oper)) (v := ?hv26) rfl (by kernel_rfl) (by kernel_rfl) (by kernel_rfl) (fun _ _ _ h => h) (Or.inl ⟨by rfl, ?hy26⟩) (by assumption) ?hr26
                case hy26 => (intro w hSw; (try dsimp only at hSw); go_simp; (try with_reducible rfl))
                try simp only [Act.put, List.setIfInBounds_toArray, List.set_cons_zero, List.set_cons_succ]
                refine wpAnyH_take (i := 7) (oi := ({ dst := some 40, op := Op.indexAddr 37 (Operand.tmp 38) (Operand.tmp 39), type := 0, pos := "ref.go:103", after := #[{ on := 5, ground := Ground.data }, { on := 6, ground := Ground.data }], guard := none } : Oper)) (v := ?hv27) rfl (by kernel_rfl) (by kernel_rfl) (by kernel_rfl) (fun _ _ _ h => h) (Or.inl ⟨by rfl, ?hy27⟩) (by assumption) ?hr27
                case hy27 => (intro w hSw; (try dsimp only at hSw); go_simp; (try with_reducible rfl))
                try simp only [Act.put, List.setIfInBounds_toArray, List.set_cons_zero, List.set_cons_succ]
                refine wpAnyH_take (i := 8) (oi := ({ dst := some 41, op := Op.fieldAddr 56 (Operand.tmp 40) 0, type := 0, pos := "ref.go:103", after := #[{ on := 7, ground := Ground.data }], guard := none } : Oper)) (v := ?hv28) rfl (by kernel_rfl) (by kernel_rfl) (by kernel_rfl) (fun _ _ _ h => h) (Or.inl ⟨by rfl, ?hy28⟩) (by assumption) ?hr28
                case hy28 => (intro w hSw; (try dsimp only at hSw); go_simp; (try with_reducible rfl))
                try simp only [Act.put, List.setIfInBounds_toArray, List.set_cons_zero, List.set_cons_succ]
                refine wpAnyH_take (i := 9) (oi := ({ dst := some 42, op := Op.load 22 (Operand.tmp 41), type := 22, pos := "ref.go:103", after := #[{ on := 8, ground := Ground.data }], guard := none } : Oper)) (v := .int .i64 q.k) rfl (by kernel_rfl) (by kernel_rfl) (by kernel_rfl) (fun _ _ _ h => h) (Or.inl ⟨by rfl, fun w0 hw0 => by obtain ⟨q0, q1, q2⟩ := HQ1.out w0 hw0; go_simp⟩) (by assumption) ?_
                try simp only [Act.put, List.setIfInBounds_toArray, List.set_cons_zero, List.set_cons_succ]
                refine wpAnyH_take (i := 10) (oi := ({ dst := some 43, op := Op.binOp BinOp.eql 22 (Operand.tmp 37) (Operand.tmp 42) 22, type := 4, pos := "ref.go:103", after := #[{ on := 4, ground := Ground.data }, { on := 9, ground := Ground.data }], guard := none } : Oper)) (v := ?hv29) rfl (by kernel_rfl) (by kernel_rfl) (by kernel_rfl) (fun _ _ _ h => h) (Or.inl ⟨by rfl, ?hy29⟩) (by assumption) ?hr29
                case hy29 => (intro w hSw; (try dsimp only at hSw); go_simp; (try with_reducible rfl))
                try simp only [Act.put, List.setIfInBounds_toArray, List.set_cons_zero, List.set_cons_succ]
                refine wpAnyH_take (i := 11) (oi := ({ dst := some 44, op := Op.move (Operand.tmp 43), type := 4, pos := "ref.go:103", after := #[{ on := 10, ground := Ground.data }], guard := none } : Oper)) (v := ?hv30) rfl (by kernel_rfl) (by kernel_rfl) (by kernel_rfl) (fun _ _ _ h => h) (Or.inl ⟨by rfl, ?hy30⟩) (by assumption) ?hr30
                case hy30 => (intro w hSw; (try dsimp only at hSw); go_simp; (try with_reducible rfl))
                try simp only [Act.put, List.setIfInBounds_toArray, List.set_cons_zero, List.set_cons_succ]
                refine wpAnyH_take (i := 12) (oi := ({ dst := some 45, op := Op.move (Operand.tmp 6), type := 44, pos := "ref.go:103", after := #[{ on := 11, ground := Ground.guard }], guard := some (11, true) } : Oper)) (v := ?hv31) rfl (by kernel_rfl) (by kernel_rfl) (by kernel_rfl) (fun _ _ _ h => h) (Or.inl ⟨by rfl, ?hy31⟩) (by assumption) ?hr31
                case hy31 => (intro w hSw; (try dsimp only at hSw); go_simp; (try with_reducible rfl))
                try simp only [Act.put, List.setIfInBounds_toArray, List.set_cons_zero, List.set_cons_succ]
                refine wpAnyH_take (i := 13) (oi := ({ dst := some 46, op := Op.move (Operand.tmp 10), type := 3, pos := "ref.go:103", after := #[{ on := 11, ground := Ground.guard }], guard := some (11, true) } : Oper)) (v := ?hv32) rfl (by kernel_rfl) (by kernel_rfl) (by kernel_rfl) (fun _ _ _ h => h) (Or.inl ⟨by rfl, ?hy32⟩) (by assumption) ?hr32
                case hy32 => (intro w hSw; (try dsimp only at hSw); go_simp; (try with_reducible rfl))
                try simp only [Act.put, List.setIfInBounds_toArray, List.set_cons_zero, List.set_cons_succ]
                refine wpAnyH_take (i := 14) (oi := ({ dst := some 47, op := Op.indexAddr 44 (Operand.tmp 45) (Operand.tmp 46), type := 0, pos := "ref.go:103", after := #[{ on := 12, ground := Ground.data }, { on := 13, ground := Ground.data }, { on := 11, ground := Ground.guard }], guard := some (11, true) } : Oper)) (v := ?hv33) rfl (by kernel_rfl) (by kernel_rfl) (by kernel_rfl) (fun _ _ _ h => h) (Or.inl ⟨by rfl, ?hy33⟩) (by assumption) ?hr33
                case hy33 => (intro w hSw; (try dsimp only at hSw); go_simp; (try with_reducible rfl))
                try simp only [Act.put, List.setIfInBounds_toArray, List.set_cons_zero, List.set_cons_succ]
                refine wpAnyH_take (i := 15) (oi := ({ dst := some 48, op := Op.fieldAddr 34 (Operand.tmp 47) 5, type := 0, pos := "ref.go:103", after := #[{ on := 14, ground := Ground.data }, { on := 11, ground := Ground.guard }], guard := some (11, true) } : Oper)) (v := ?hv34) rfl (by kernel_rfl) (by kernel_rfl) (by kernel_rfl) (fun _ _ _ h => h) (Or.inl ⟨by rfl, ?hy34⟩) (by assumption) ?hr34
                case hy34 => (intro w hSw; (try dsimp only at hSw); go_simp; (try with_reducible rfl))
                try simp only [Act.put, List.setIfInBounds_toArray, List.set_cons_zero, List.set_cons_succ]
                refine wpAnyH_take (i := 16) (oi := ({ dst := some 49, op := Op.load 9 (Operand.tmp 48), type := 9, pos := "ref.go:103", after := #[{ on := 15, ground := Ground.data }, { on := 11, ground := Ground.guard }], guard := some (11, true) } : Oper)) (v := .string ke) rfl (by kernel_rfl) (by kernel_rfl) (by kernel_rfl) (fun _ _ _ h => h) (Or.inl ⟨by rfl, fun w0 hw0 => by obtain ⟨q0, q1⟩ := HP.out w0 hw0; go_simp⟩) (by assumption) ?_
                try simp only [Act.put, List.setIfInBounds_toArray, List.set_cons_zero, List.set_cons_succ]
                refine wpAnyH_take (i := 17) (oi := ({ dst := some 50, op := Op.move (Operand.tmp 5), type := 37, pos := "ref.go:103", after := #[{ on := 11, ground := Ground.guard }], guard := some (11, true) } : Oper)) (v := ?hv35) rfl (by kernel_rfl) (by kernel_rfl) (by kernel_rfl) (fun _ _ _ h => h) (Or.inl ⟨by rfl, ?hy35⟩) (by assumption) ?hr35
                case hy35 => (intro w hSw; (try dsimp only at hSw); go_simp; (try with_reducible rfl))
                try simp only [Act.put, List.setIfInBounds_toArray, List.set_cons_zero, List.set_cons_succ]
                refine wpAnyH_take (i := 18) (oi := ({ dst := some 51, op := Op.move (Operand.tmp 8), type := 3, pos := "ref.go:103", after := #[{ on := 11, ground := Ground.guard }], guard := some (11, true) } : Oper)) (v := ?hv36) rfl (by kernel_rfl) (by kernel_rfl) (by kernel_rfl) (fun _ _ _ h => h) (Or.inl ⟨by rfl, ?hy36⟩) (by assumption) ?hr36
                case hy36 => (intro w hSw; (try dsimp only at hSw); go_simp; (try with_reducible rfl))
                try simp only [Act.put, List.setIfInBounds_toArray, List.set_cons_zero, List.set_cons_succ]
                refine wpAnyH_take (i := 19) (oi := ({ dst := some 52, op := Op.indexAddr 37 (Operand.tmp 50) (Operand.tmp 51), type := 0, pos := "ref.go:103", after := #[{ on := 17, ground := Ground.data }, { on := 18, ground := Ground.data }, { on := 11, ground := Ground.guard }], guard := some (11, true) } : Oper)) (v := ?hv37) rfl (by kernel_rfl) (by kernel_rfl) (by kernel_rfl) (fun _ _ _ h => h) (Or.inl ⟨by rfl, ?hy37⟩) (by assumption) ?hr37
                case hy37 => (intro w hSw; (try dsimp only at hSw); go_simp; (try with_reducible rfl))
                try simp only [Act.put, List.setIfInBounds_toArray, List.set_cons_zero, List.set_cons_succ]
                refine wpAnyH_take (i := 20) (oi := ({ dst := some 53, op := Op.fieldAddr 56 (Operand.tmp 52) 1, type := 0, pos := "ref.go:103", after := #[{ on := 19, ground := Ground.data }, { on := 11, ground := Ground.guard }], guard := some (11, true) } : Oper)) (v := ?hv38) rfl (by kernel_rfl) (by kernel_rfl) (by kernel_rfl) (fun _ _ _ h => h) (Or.inl ⟨by rfl, ?hy38⟩) (by assumption) ?hr38
                case hy38 => (intro w hSw; (try dsimp only at hSw); go_simp; (try with_reducible rfl))
                try simp only [Act.put, List.setIfInBounds_toArray, List.set_cons_zero, List.set_cons_succ]
                refine wpAnyH_take (i := 21) (oi := ({ dst := some 54, op := Op.load 9 (Operand.tmp 53), type := 9, pos := "ref.go:103", after := #[{ on := 20, ground := Ground.data }, { on := 11, ground := Ground.guard }], guard := some (11, true) } : Oper)) (v := .string q.key) rfl (by kernel_rfl) (by kernel_rfl) (by kernel_rfl) (fun _ _ _ h => h) (Or.inl ⟨by rfl, fun w0 hw0 => by obtain ⟨q0, q1, q2⟩ := HQ1.out w0 hw0; go_simp⟩) (by assumption) ?_
                try simp only [Act.put, List.setIfInBounds_toArray, List.set_cons_zero, List.set_cons_succ]
                refine wpAnyH_take (i := 22) (oi := ({ dst := some 55, op := Op.binOp BinOp.eql 9 (Operand.tmp 49) (Operand.tmp 54) 9, type := 4, pos := "ref.go:103", after := #[{ on := 16, ground := Ground.data }, { on := 21, ground := Ground.data }, { on := 11, ground := Ground.guard }], guard := some (11, true) } : Oper)) (v := ?hv39) rfl (by kernel_rfl) (by kernel_rfl) (by kernel_rfl) (fun _ _ _ h => h) (Or.inl ⟨by rfl, ?hy39⟩) (by assumption) ?hr39
                case hy39 => (intro w hSw; (try dsimp only at hSw); go_simp; (try with_reducible rfl))
                try simp only [Act.put, List.setIfInBounds_toArray, List.set_cons_zero, List.set_cons_succ]
                refine wpAnyH_take (i := 23) (oi := ({ dst := some 56, op := Op.pick (Operand.tmp 44) (Operand.tmp 55) (Operand.const (Value.bool false)), type := 4, pos := "ref.go:103", after := #[{ on := 11, ground := Ground.data }, { on := 22, ground := Ground.data }], guard := none } : Oper)) (v := ?hv40) rfl (by kernel_rfl) (by kernel_rfl) (by kernel_rfl) (fun _ _ _ h => h) (Or.inl ⟨by rfl, ?hy40⟩) (by assumption) ?hr40
                case hy40 => (intro w hSw; (try dsimp only at hSw); go_simp; (try with_reducible rfl))
                try simp only [Act.put, List.setIfInBounds_toArray, List.set_cons_zero, List.set_cons_succ]
                refine wpAnyH_done (by kernel_rfl) ?_ _
                go_wp2
                go_roundg (m - (jj + 1))
                case measure => omega
                case rel => exact ⟨jj + 1, by omega, by omega, by go_num, .inl ⟨rfl, rfl, HN2, Lib.hid (BQ.out.trans (RB0.out.mono BQ.out.size))⟩⟩
            · have z1' : (kd == q.k) = false := beq_eq_false_iff_ne.2 z1
              have HN2 := Lib.hid (HN.out (by rw [HMt.out]; exact decide_eq_false (fun h => z1 ((Ky.eq_iff3 (Ky.kz kd ke) q).1 h).1)))
              clear HN HY z1
              go_upto_region 11 with (fail)
              refine wp_region_held_drew (S := (fun y => Below wr.heap.size wr y)) (by kernel_rfl) ((Below.refl wr.heap.size wr).drew) (fun hH0 => ?_)
              generalize hy0 : World.drew _ = y0 at hH0 ⊢
              have RB0 : Hid (Below wr.heap.size wr y0) := Lib.hid hH0
              clear hy0
              refine wpAnyH_take (i := 0) (oi := ({ dst := some 33, op := Op.move (Operand.tmp 6), type := 44, pos := "ref.go:103", after := #[], guard := none } : Oper)) (v := ?hv41) rfl (by kernel_rfl) (by kernel_rfl) (by kernel_rfl) (fun _ _ _ h => h) (Or.inl ⟨by rfl, ?hy41⟩) (by assumption) ?hr41
              case hy41 => (intro w hSw; (try dsimp only at hSw); go_simp; (try with_reducible rfl))
              try simp only [Act.put, List.setIfInBounds_toArray, List.set_cons_zero, List.set_cons_succ]
              refine wpAnyH_take (i := 1) (oi := ({ dst := some 34, op := Op.move (Operand.tmp 10), type := 3, pos := "ref.go:103", after := #[], guard := none } : Oper)) (v := ?hv42) rfl (by kernel_rfl) (by kernel_rfl) (by kernel_rfl) (fun _ _ _ h => h) (Or.inl ⟨by rfl, ?hy42⟩) (by assumption) ?hr42
              case hy42 => (intro w hSw; (try dsimp only at hSw); go_simp; (try with_reducible rfl))
              try simp only [Act.put, List.setIfInBounds_toArray, List.set_cons_zero, List.set_cons_succ]
              refine wpAnyH_take (i := 2) (oi := ({ dst := some 35, op := Op.indexAddr 44 (Operand.tmp 33) (Operand.tmp 34), type := 0, pos := "ref.go:103", after := #[{ on := 0, ground := Ground.data }, { on := 1, ground := Ground.data }], guard := none } : Oper)) (v := ?hv43) rfl (by kernel_rfl) (by kernel_rfl) (by kernel_rfl) (fun _ _ _ h => h) (Or.inl ⟨by rfl, ?hy43⟩) (by assumption) ?hr43
              case hy43 => (intro w hSw; (try dsimp only at hSw); go_simp; (try with_reducible rfl))
              try simp only [Act.put, List.setIfInBounds_toArray, List.set_cons_zero, List.set_cons_succ]
              refine wpAnyH_take (i := 3) (oi := ({ dst := some 36, op := Op.fieldAddr 34 (Operand.tmp 35) 3, type := 0, pos := "ref.go:103", after := #[{ on := 2, ground := Ground.data }], guard := none } : Oper)) (v := ?hv44) rfl (by kernel_rfl) (by kernel_rfl) (by kernel_rfl) (fun _ _ _ h => h) (Or.inl ⟨by rfl, ?hy44⟩) (by assumption) ?hr44
              case hy44 => (intro w hSw; (try dsimp only at hSw); go_simp; (try with_reducible rfl))
              try simp only [Act.put, List.setIfInBounds_toArray, List.set_cons_zero, List.set_cons_succ]
              refine wpAnyH_take (i := 4) (oi := ({ dst := some 37, op := Op.load 22 (Operand.tmp 36), type := 22, pos := "ref.go:103", after := #[{ on := 3, ground := Ground.data }], guard := none } : Oper)) (v := .int .i64 kd) rfl (by kernel_rfl) (by kernel_rfl) (by kernel_rfl) (fun _ _ _ h => h) (Or.inl ⟨by rfl, fun w0 hw0 => by obtain ⟨q0, q1⟩ := HP.out w0 hw0; go_simp⟩) (by assumption) ?_
              try simp only [Act.put, List.setIfInBounds_toArray, List.set_cons_zero, List.set_cons_succ]
              refine wpAnyH_take (i := 5) (oi := ({ dst := some 38, op := Op.move (Operand.tmp 5), type := 37, pos := "ref.go:103", after := #[], guard := none } : Oper)) (v := ?hv45) rfl (by kernel_rfl) (by kernel_rfl) (by kernel_rfl) (fun _ _ _ h => h) (Or.inl ⟨by rfl, ?hy45⟩) (by assumption) ?hr45
              case hy45 => (intro w hSw; (try dsimp only at hSw); go_simp; (try with_reducible rfl))
              try simp only [Act.put, List.setIfInBounds_toArray, List.set_cons_zero, List.set_cons_succ]
              refine wpAnyH_take (i := 6) (oi := ({ dst := some 39, op := Op.move (Operand.tmp 8), type := 3, pos := "ref.go:103", after := #[], guard := none } : Oper)) (v := ?hv46) rfl (by kernel_rfl) (by kernel_rfl) (by kernel_rfl) (fun _ _ _ h => h) (Or.inl ⟨by rfl, ?hy46⟩) (by assumption) ?hr46
              case hy46 => (intro w hSw; (try dsimp only at hSw); go_simp; (try with_reducible rfl))
              try simp only [Act.put, List.setIfInBounds_toArray, List.set_cons_zero, List.set_cons_succ]
              refine wpAnyH_take (i := 7) (oi := ({ dst := some 40, op := Op.indexAddr 37 (Operand.tmp 38) (Operand.tmp 39), type := 0, pos := "ref.go:103", after := #[{ on := 5, ground := Ground.data }, { on := 6, ground := Ground.data }], guard := none } : Oper)) (v := ?hv47) rfl (by kernel_rfl) (by kernel_rfl) (by kernel_rfl) (fun _ _ _ h => h) (Or.inl ⟨by rfl, ?hy47⟩) (by assumption) ?hr47
              case hy47 => (intro w hSw; (try dsimp only at hSw); go_simp; (try with_reducible rfl))
              try simp only [Act.put, List.setIfInBounds_toArray, List.set_cons_zero, List.set_cons_succ]
              refine wpAnyH_take (i := 8) (oi := ({ dst := some 41, op := Op.fieldAddr 56 (Operand.tmp 40) 0, type := 0, pos := "ref.go:103", after := #[{ on := 7, ground := Ground.data }], guard := none } : Oper)) (v := ?hv48) rfl (by kernel_rfl) (by kernel_rfl) (by kernel_rfl) (fun _ _ _ h => h) (Or.inl ⟨by rfl, ?hy48⟩) (by assumption) ?hr48
              case hy48 => (intro w hSw; (try dsimp only at hSw); go_simp; (try with_reducible rfl))
              try simp only [Act.put, List.setIfInBounds_toArray, List.set_cons_zero, List.set_cons_succ]
              refine wpAnyH_take (i := 9) (oi := ({ dst := some 42, op := Op.load 22 (Operand.tmp 41), type := 22, pos := "ref.go:103", after := #[{ on := 8, ground := Ground.data }], guard := none } : Oper)) (v := .int .i64 q.k) rfl (by kernel_rfl) (by kernel_rfl) (by kernel_rfl) (fun _ _ _ h => h) (Or.inl ⟨by rfl, fun w0 hw0 => by obtain ⟨q0, q1, q2⟩ := HQ1.out w0 hw0; go_simp⟩) (by assumption) ?_
              try simp only [Act.put, List.setIfInBounds_toArray, List.set_cons_zero, List.set_cons_succ]
              refine wpAnyH_take (i := 10) (oi := ({ dst := some 43, op := Op.binOp BinOp.eql 22 (Operand.tmp 37) (Operand.tmp 42) 22, type := 4, pos := "ref.go:103", after := #[{ on := 4, ground := Ground.data }, { on := 9, ground := Ground.data }], guard := none } : Oper)) (v := ?hv49) rfl (by kernel_rfl) (by kernel_rfl) (by kernel_rfl) (fun _ _ _ h => h) (Or.inl ⟨by rfl, ?hy49⟩) (by assumption) ?hr49
              case hy49 => (intro w hSw; (try dsimp only at hSw); go_simp; (try with_reducible rfl))
              try simp only [Act.put, List.setIfInBounds_toArray, List.set_cons_zero, List.set_cons_succ]
              refine wpAnyH_take (i := 11) (oi := ({ dst := some 44, op := Op.move (Operand.tmp 43), type := 4, pos := "ref.go:103", after := #[{ on := 10, ground := Ground.data }], guard := none } : Oper)) (v := ?hv50) rfl (by kernel_rfl) (by kernel_rfl) (by kernel_rfl) (fun _ _ _ h => h) (Or.inl ⟨by rfl, ?hy50⟩) (by assumption) ?hr50
              case hy50 => (intro w hSw; (try dsimp only at hSw); go_simp; (try with_reducible rfl))
              try simp only [Act.put, List.setIfInBounds_toArray, List.set_cons_zero, List.set_cons_succ]
              refine wpAnyH_take (i := 12) (oi := ({ dst := some 45, op := Op.move (Operand.tmp 6), type := 44, pos := "ref.go:103", after := #[{ on := 11, ground := Ground.guard }], guard := some (11, true) } : Oper)) (v := undef) rfl (by kernel_rfl) (by kernel_rfl) (by kernel_rfl) (fun _ _ _ h => h) (Or.inr ⟨by rfl, rfl⟩) (by assumption) ?_
              try simp only [Act.put, List.setIfInBounds_toArray, List.set_cons_zero, List.set_cons_succ]
              refine wpAnyH_take (i := 13) (oi := ({ dst := some 46, op := Op.move (Operand.tmp 10), type := 3, pos := "ref.go:103", after := #[{ on := 11, ground := Ground.guard }], guard := some (11, true) } : Oper)) (v := undef) rfl (by kernel_rfl) (by kernel_rfl) (by kernel_rfl) (fun _ _ _ h => h) (Or.inr ⟨by rfl, rfl⟩) (by assumption) ?_
              try simp only [Act.put, List.setIfInBounds_toArray, List.set_cons_zero, List.set_cons_succ]
              refine wpAnyH_take (i := 14) (oi := ({ dst := some 47, op := Op.indexAddr 44 (Operand.tmp 45) (Operand.tmp 46), type := 0, pos := "ref.go:103", after := #[{ on := 12, ground := Ground.data }, { on := 13, ground := Ground.data }, { on := 11, ground := Ground.guard }], guard := some (11, true) } : Oper)) (v := undef) rfl (by kernel_rfl) (by kernel_rfl) (by kernel_rfl) (fun _ _ _ h => h) (Or.inr ⟨by rfl, rfl⟩) (by assumption) ?_
              try simp only [Act.put, List.setIfInBounds_toArray, List.set_cons_zero, List.set_cons_succ]
              refine wpAnyH_take (i := 15) (oi := ({ dst := some 48, op := Op.fieldAddr 34 (Operand.tmp 47) 5, type := 0, pos := "ref.go:103", after := #[{ on := 14, ground := Ground.data }, { on := 11, ground := Ground.guard }], guard := some (11, true) } : Oper)) (v := undef) rfl (by kernel_rfl) (by kernel_rfl) (by kernel_rfl) (fun _ _ _ h => h) (Or.inr ⟨by rfl, rfl⟩) (by assumption) ?_
              try simp only [Act.put, List.setIfInBounds_toArray, List.set_cons_zero, List.set_cons_succ]
              refine wpAnyH_take (i := 16) (oi := ({ dst := some 49, op := Op.load 9 (Operand.tmp 48), type := 9, pos := "ref.go:103", after := #[{ on := 15, ground := Ground.data }, { on := 11, ground := Ground.guard }], guard := some (11, true) } : Oper)) (v := undef) rfl (by kernel_rfl) (by kernel_rfl) (by kernel_rfl) (fun _ _ _ h => h) (Or.inr ⟨by rfl, rfl⟩) (by assumption) ?_
              try simp only [Act.put, List.setIfInBounds_toArray, List.set_cons_zero, List.set_cons_succ]
              refine wpAnyH_take (i := 17) (oi := ({ dst := some 50, op := Op.move (Operand.tmp 5), type := 37, pos := "ref.go:103", after := #[{ on := 11, ground := Ground.guard }], guard := some (11, true) } : Oper)) (v := undef) rfl (by kernel_rfl) (by kernel_rfl) (by kernel_rfl) (fun _ _ _ h => h) (Or.inr ⟨by rfl, rfl⟩) (by assumption) ?_
              try simp only [Act.put, List.setIfInBounds_toArray, List.set_cons_zero, List.set_cons_succ]
              refine wpAnyH_take (i := 18) (oi := ({ dst := some 51, op := Op.move (Operand.tmp 8), type := 3, pos := "ref.go:103", after := #[{ on := 11, ground := Ground.guard }], guard := some (11, true) } : Oper)) (v := undef) rfl (by kernel_rfl) (by kernel_rfl) (by kernel_rfl) (fun _ _ _ h => h) (Or.inr ⟨by rfl, rfl⟩) (by assumption) ?_
              try simp only [Act.put, List.setIfInBounds_toArray, List.set_cons_zero, List.set_cons_succ]
              refine wpAnyH_take (i := 19) (oi := ({ dst := some 52, op := Op.indexAddr 37 (Operand.tmp 50) (Operand.tmp 51), type := 0, pos := "ref.go:103", after := #[{ on := 17, ground := Ground.data }, { on := 18, ground := Ground.data }, { on := 11, ground := Ground.guard }], guard := some (11, true) } : Oper)) (v := undef) rfl (by kernel_rfl) (by kernel_rfl) (by kernel_rfl) (fun _ _ _ h => h) (Or.inr ⟨by rfl, rfl⟩) (by assumption) ?_
              try simp only [Act.put, List.setIfInBounds_toArray, List.set_cons_zero, List.set_cons_succ]
              refine wpAnyH_take (i := 20) (oi := ({ dst := some 53, op := Op.fieldAddr 56 (Operand.tmp 52) 1, type := 0, pos := "ref.go:103", after := #[{ on := 19, ground := Ground.data }, { on := 11, ground := Ground.guard }], guard := some (11, true) } : Oper)) (v := undef) rfl (by kernel_rfl) (by kernel_rfl) (by kernel_rfl) (fun _ _ _ h => h) (Or.inr ⟨by rfl, rfl⟩) (by assumption) ?_
              try simp only [Act.put, List.setIfInBounds_toArray, List.set_cons_zero, List.set_cons_succ]
              refine wpAnyH_take (i := 21) (oi := ({ dst := some 54, op := Op.load 9 (Operand.tmp 53), type := 9, pos := "ref.go:103", after := #[{ on := 20, ground := Ground.data }, { on := 11, ground := Ground.guard }], guard := some (11, true) } : Oper)) (v := undef) rfl (by kernel_rfl) (by kernel_rfl) (by kernel_rfl) (fun _ _ _ h => h) (Or.inr ⟨by rfl, rfl⟩) (by assumption) ?_
              try simp only [Act.put, List.setIfInBounds_toArray, List.set_cons_zero, List.set_cons_succ]
              refine wpAnyH_take (i := 22) (oi := ({ dst := some 55, op := Op.binOp BinOp.eql 9 (Operand.tmp 49) (Operand.tmp 54) 9, type := 4, pos := "ref.go:103", after := #[{ on := 16, ground := Ground.data }, { on := 21, ground := Ground.data }, { on := 11, ground := Ground.guard }], guard := some (11, true) } : Oper)) (v := undef) rfl (by kernel_rfl) (by kernel_rfl) (by kernel_rfl) (fun _ _ _ h => h) (Or.inr ⟨by rfl, rfl⟩) (by assumption) ?_
              try simp only [Act.put, List.setIfInBounds_toArray, List.set_cons_zero, List.set_cons_succ]
              refine wpAnyH_take (i := 23) (oi := ({ dst := some 56, op := Op.pick (Operand.tmp 44) (Operand.tmp 55) (Operand.const (Value.bool false)), type := 4, pos := "ref.go:103", after := #[{ on := 11, ground := Ground.data }, { on := 22, ground := Ground.data }], guard := none } : Oper)) (v := ?hv51) rfl (by kernel_rfl) (by kernel_rfl) (by kernel_rfl) (fun _ _ _ h => h) (Or.inl ⟨by rfl, ?hy51⟩) (by assumption) ?hr51
              case hy51 => (intro w hSw; (try dsimp only at hSw); go_simp; (try with_reducible rfl))
              try simp only [Act.put, List.setIfInBounds_toArray, List.set_cons_zero, List.set_cons_succ]
              refine wpAnyH_done (by kernel_rfl) ?_ _
              go_wp2
              go_roundg (m - (jj + 1))
              case measure => omega
              case rel => exact ⟨jj + 1, by omega, by omega, by go_num, .inl ⟨rfl, rfl, HN2, Lib.hid (BQ.out.trans (RB0.out.mono BQ.out.size))⟩⟩
          · have hl2z : ¬ (jj : Int) < (m : Int) := by omega
            have E9 := Lib.hid (show eso.map dat = fromK E n e.p9 (kl.take (kk + 1)) by
              rw [HEs.out, HTk.out, ← HFq.out, find_noE (l := es) (f := mt q) (fun j hj => HJ.out j (by rw [HEl.out] at hj; omega))]; simp)
            have O9 := Lib.hid (own_keep HO.out (fun b _ hl => BQ.out.block b hl))
            have K9 := Lib.hid (HKe.out.below BQ.out)
            go_wp2
            go_roundg (kl.length - (kk + 1))
            case measure => omega
            case rel => exact ⟨kk + 1, nf, v, eso, by omega, by omega, rfl, by go_num, by omega, HEo, O9, E9, K9, BXQ⟩
        · have HEo' := Lib.hid (show (eso ++ [x]).length = nf + 1 by rw [List.length_append, HEo.out]; rfl)
          by_cases hl2 : jj < m
          · have hl2z : (jj : Int) < (m : Int) := by omega
            go_wp2
            go_roundg (kl.length - (kk + 1))
            case measure => omega
            case rel => exact ⟨kk + 1, nf + 1, v', eso ++ [x], by omega, by omega, rfl, by go_num, by omega, HEo', O', E', K', B'⟩
          · have hl2z : ¬ (jj : Int) < (m : Int) := by omega
            go_wp2
            go_roundg (kl.length - (kk + 1))
            case measure => omega
            case rel => exact ⟨kk + 1, nf + 1, v', eso ++ [x], by omega, by omega, rfl, by go_num, by omega, HEo', O', E', K', B'⟩
    · have hltz : ¬ (kk : Int) < (kl.length : Int) := by omega
      have HTa := Lib.hid (show kl.take kk = kl from List.take_of_length_le (by omega))
      go_wp2
      obtain ⟨A6, c6, hv6⟩ := own_slice HO.out
      subst hv6
      go_ret
      rw [HTa.out] at HEs
      exact evs_end HO.out HEo.out (by omega) HKe.out HEs.out BW.out
end Go.Proofs.Ytbedibiodlgegaa
