/- AuthsetFits, AuthsetFroms: their walks. -/
import Derived.Test.YtbedibiodlgegaaK21
import Derived.Test.YtbedibiodlgegaaK17
namespace Go.Proofs.Ytbedibiodlgegaa
open Go Go.RowKit
set_option linter.unusedVariables false
set_option linter.unusedSimpArgs false

set_option maxRecDepth 100000 in
set_option maxHeartbeats 8000000 in
theorem fits_walk (A : Option Addr) (n c : Nat) (E : Nat → Evd) (e : Evd) (w : World) (h0 : Evx w A n E) (hc : IsCt w e.C e.a) (h : Wfe e) (p8 : Its w e.a8 e.n8 e.c8 e.p8) (p9 : Its w e.a9 e.n9 e.c9 e.p9) : Calls Try.prog 5 #[.slice A n c, .agg (cellsE e).toArray] w fun r w' => r = .returned (.bool true) ∧ Below w.heap.size w w' := by
  show Calls Try.prog 5 #[.slice A n c, .agg #[.int .i64 e.e0, .string e.e1, .string e.e2, .int .i64 e.e3, .bool e.e4, .string e.e5, .int .i64 e.e6, .int .i64 e.e7, .slice e.a8 e.n8 e.c8, .slice e.a9 e.n9 e.c9, .string e.C.tx, .int .i64 e.C.n, .int .i64 e.C.tg, .bool e.C.th, .string e.C.via, .slice e.a.aA e.C.nA e.a.aC, .slice e.a.dA e.C.nD e.a.dC, .slice e.a.uA e.C.lv.nU e.a.uC, .slice e.a.kA e.C.lv.nK e.a.kC, .int .i64 e.C.lv.d, .int .i64 e.C.lv.x3, .int .i64 e.C.lv.x4, .int .i64 e.C.lv.x5, .int .i64 e.C.lv.x6, .int .i64 e.C.lv.x7, .int .i64 e.C.lv.x8, .int .i64 e.e26, .string e.e27, .int .i64 e.e28]] w _
  have BA := Lib.hid ((Below.refl w.heap.size w).alloc (Nat.le_refl _) (.cells #[.int .i64 e.e0, .string e.e1, .string e.e2, .int .i64 e.e3, .bool e.e4, .string e.e5, .int .i64 e.e6, .int .i64 e.e7, .slice e.a8 e.n8 e.c8, .slice e.a9 e.n9 e.c9, .string e.C.tx, .int .i64 e.C.n, .int .i64 e.C.tg, .bool e.C.th, .string e.C.via, .slice e.a.aA e.C.nA e.a.aC, .slice e.a.dA e.C.nD e.a.dC, .slice e.a.uA e.C.lv.nU e.a.uC, .slice e.a.kA e.C.lv.nK e.a.kC, .int .i64 e.C.lv.d, .int .i64 e.C.lv.x3, .int .i64 e.C.lv.x4, .int .i64 e.C.lv.x5, .int .i64 e.C.lv.x6, .int .i64 e.C.lv.x7, .int .i64 e.C.lv.x8, .int .i64 e.e26, .string e.e27, .int .i64 e.e28] 34))
  have XA : Hid (Blk (w.alloc (.cells #[.int .i64 e.e0, .string e.e1, .string e.e2, .int .i64 e.e3, .bool e.e4, .string e.e5, .int .i64 e.e6, .int .i64 e.e7, .slice e.a8 e.n8 e.c8, .slice e.a9 e.n9 e.c9, .string e.C.tx, .int .i64 e.C.n, .int .i64 e.C.tg, .bool e.C.th, .string e.C.via, .slice e.a.aA e.C.nA e.a.aC, .slice e.a.dA e.C.nD e.a.dC, .slice e.a.uA e.C.lv.nU e.a.uC, .slice e.a.kA e.C.lv.nK e.a.kC, .int .i64 e.C.lv.d, .int .i64 e.C.lv.x3, .int .i64 e.C.lv.x4, .int .i64 e.C.lv.x5, .int .i64 e.C.lv.x6, .int .i64 e.C.lv.x7, .int .i64 e.C.lv.x8, .int .i64 e.e26, .string e.e27, .int .i64 e.e28] 34)) w.heap.size (cellsE e) 34) := Lib.hid (blk_new w (cellsE e) 34)
  have H := Lib.hid (h0.below BA.out)
  have HGr := Lib.hid (great13 A n c 14 E _ H.out)
  have HLo := Lib.hid (fun u (hb : Below w.heap.size w u) => long19e e u (hc.below hb) h)
  have HWf := Lib.hid h
  have H9 := Lib.hid (p9.below BA.out)
  clear h0 hc h p8 p9
  go_enter Try.func5, Try.ntmps5
  go_upto_region 3 with (first
    | (go_at_call 18; (with_reducible refine HGr.out.mono ?_); rintro e1 w3 ⟨⟨q, rfl, hq⟩, hb⟩; have HQ := Lib.hid hq; have F3 := Lib.hid hb; have B3 := Lib.hid (BA.out.trans (hb.mono BA.out.size)); have R3 := Lib.hid (XA.out.below hb).range; clear hq hb; cases q)
    | (refine load_mid_g (by rfl) 34 _ rfl w.heap.size 0 rfl (cellsE e) _ R3.out Try.underlying34 rfl size39 ?_)
    | (go_at_call 10; (with_reducible refine (HLo.out _ B3.out).mono ?_); rintro e1 w4 ⟨⟨q, rfl, hq⟩, hb⟩; have HL := Lib.hid hq; have F4 := Lib.hid (F3.out.trans (hb.mono F3.out.size)); have X4 := Lib.hid (XA.out.below F4.out); have B4 := Lib.hid (B3.out.trans (hb.mono B3.out.size)); clear hq hb; cases q)
    | fail)
  · have HF := Lib.hid (show e.n9 ≤ 40 from (HL.out trivial).2.1)
    have C19 := Lib.hid (fun u (hb : Below w4.heap.size w4 u) => fits19 A n c E e u (H.out.below (F4.out.trans (hb.mono F4.out.size))) HWf.out (H9.out.below (F4.out.trans (hb.mono F4.out.size))) (by have := HF.out; omega))
    have C20 := Lib.hid (fun u (hb : Below w4.heap.size w4 u) => rfits20 A n c E e u (H.out.below (F4.out.trans (hb.mono F4.out.size))) HWf.out (H9.out.below (F4.out.trans (hb.mono F4.out.size))) (by have := HF.out; omega))
    generalize fitsE E n e = ft at C19 C20
    clear HGr HLo HQ HL BA XA R3
    refine wp_region_held_drew (S := (fun y => Below w4.heap.size w4 y)) (by kernel_rfl) ((Below.refl w4.heap.size w4).drew) (fun hH0 => ?_)
    generalize hy0 : World.drew _ = y0 at hH0 ⊢
    have RB0 : Hid (Below w4.heap.size w4 y0) := Lib.hid hH0
    clear hy0
    refine wpAnyH_take (i := 0) (oi := ({ dst := some 11, op := Op.move (Operand.tmp 0), type := 44, pos := "law.go:48", after := #[], guard := none } : Oper)) (v := ?hv50) rfl (by kernel_rfl) (by kernel_rfl) (by kernel_rfl) (fun _ _ _ h => h) (Or.inl ⟨by rfl, ?hy50⟩) (by assumption) ?hr50
    case hy50 => (intro w hSw; (try dsimp only at hSw); go_simp; (try with_reducible rfl))
    try simp only [Act.put, List.setIfInBounds_toArray, List.set_cons_zero, List.set_cons_succ]
    refine wpAnyH_take (i := 1) (oi := ({ dst := some 12, op := Op.load 34 (Operand.tmp 3), type := 34, pos := "law.go:48", after := #[], guard := none } : Oper)) (v := .agg (cellsE e).toArray) rfl (by kernel_rfl) (by kernel_rfl) (by kernel_rfl) (fun _ _ _ h => h) (yieldsIf_load_mid (by rfl) 34 _ rfl w.heap.size 0 rfl (cellsE e) _ (fun w0 hw0 => (X4.out.below hw0).range) Try.underlying34 rfl size39) (by assumption) ?_
    try simp only [Act.put, List.setIfInBounds_toArray, List.set_cons_zero, List.set_cons_succ]
    refine wpAnyH_take (i := 3) (oi := ({ dst := some 14, op := Op.move (Operand.tmp 0), type := 44, pos := "law.go:48", after := #[], guard := none } : Oper)) (v := ?hv51) rfl (by kernel_rfl) (by kernel_rfl) (by kernel_rfl) (fun _ _ _ h => h) (Or.inl ⟨by rfl, ?hy51⟩) (by assumption) ?hr51
    case hy51 => (intro w hSw; (try dsimp only at hSw); go_simp; (try with_reducible rfl))
    try simp only [Act.put, List.setIfInBounds_toArray, List.set_cons_zero, List.set_cons_succ]
    refine wpAnyH_take (i := 4) (oi := ({ dst := some 15, op := Op.load 34 (Operand.tmp 3), type := 34, pos := "law.go:48", after := #[], guard := none } : Oper)) (v := .agg (cellsE e).toArray) rfl (by kernel_rfl) (by kernel_rfl) (by kernel_rfl) (fun _ _ _ h => h) (yieldsIf_load_mid (by rfl) 34 _ rfl w.heap.size 0 rfl (cellsE e) _ (fun w0 hw0 => (X4.out.below hw0).range) Try.underlying34 rfl size39) (by assumption) ?_
    try simp only [Act.put, List.setIfInBounds_toArray, List.set_cons_zero, List.set_cons_succ]
    refine wpAnyH_ready (rs := [2]) (by kernel_rfl) (by simp) ?_
    refine AllReadyH.cons (o := ({ dst := some 13, op := Op.call { callee := Callee.value (Operand.func 19), args := #[Operand.tmp 11, Operand.tmp 12], argTypes := #[44, 34] }, type := 46, pos := "law.go:48", after := #[{ on := 0, ground := Ground.data }, { on := 1, ground := Ground.data }], guard := none } : Oper)) rfl (fun KK hKK => ?_) AllReadyH.nil
    go_simp
    (with_reducible refine (C19.out _ RB0.out).mono ?_)
    rintro e0 y1 ⟨rfl, hb⟩
    have RB1 := Lib.hid (RB0.out.trans (hb.mono RB0.out.size))
    clear hb
    refine hKK.out _ _ (RB1.out) (fun hH1 => ?_)
    clear hKK KK
    try simp only [Act.put, List.setIfInBounds_toArray, List.set_cons_zero, List.set_cons_succ]
    refine wpAnyH_ready (rs := [5]) (by kernel_rfl) (by simp) ?_
    refine AllReadyH.cons (o := ({ dst := some 16, op := Op.call { callee := Callee.value (Operand.func 20), args := #[Operand.tmp 14, Operand.tmp 15], argTypes := #[44, 34] }, type := 46, pos := "law.go:48", after := #[{ on := 3, ground := Ground.data }, { on := 4, ground := Ground.data }, { on := 2, ground := Ground.chain }], guard := none } : Oper)) rfl (fun KK hKK => ?_) AllReadyH.nil
    go_simp
    (with_reducible refine (C20.out _ RB1.out).mono ?_)
    rintro e0 y2 ⟨rfl, hb⟩
    have RB2 := Lib.hid (RB1.out.trans (hb.mono RB1.out.size))
    clear hb
    refine hKK.out _ _ (RB2.out) (fun hH2 => ?_)
    clear hKK KK
    try simp only [Act.put, List.setIfInBounds_toArray, List.set_cons_zero, List.set_cons_succ]
    refine wpAnyH_take (i := 6) (oi := ({ dst := some 17, op := Op.binOp BinOp.eql 46 (Operand.tmp 13) (Operand.tmp 16) 46, type := 4, pos := "law.go:48", after := #[{ on := 2, ground := Ground.data }, { on := 5, ground := Ground.data }], guard := none } : Oper)) (v := ?hv52) rfl (by kernel_rfl) (by kernel_rfl) (by kernel_rfl) (fun _ _ _ h => h) (Or.inl ⟨by rfl, ?hy52⟩) (by assumption) ?hr52
    case hy52 => (intro w hSw; (try dsimp only at hSw); go_simp; (try with_reducible rfl))
    try simp only [Act.put, List.setIfInBounds_toArray, List.set_cons_zero, List.set_cons_succ]
    refine wpAnyH_take (i := 7) (oi := ({ dst := some 18, op := Op.move (Operand.tmp 17), type := 4, pos := "law.go:48", after := #[{ on := 6, ground := Ground.data }, { on := 5, ground := Ground.chain }], guard := none } : Oper)) (v := ?hv53) rfl (by kernel_rfl) (by kernel_rfl) (by kernel_rfl) (fun _ _ _ h => h) (Or.inl ⟨by rfl, ?hy53⟩) (by assumption) ?hr53
    case hy53 => (intro w hSw; (try dsimp only at hSw); go_simp; (try with_reducible rfl))
    try simp only [Act.put, List.setIfInBounds_toArray, List.set_cons_zero, List.set_cons_succ]
    refine wpAnyH_ready (rs := [8]) (by kernel_rfl) (by simp) ?_
    refine AllReadyH.cons (o := ({ dst := some 19, op := Op.call { callee := Callee.value (Operand.func 14), args := #[], argTypes := #[] }, type := 4, pos := "law.go:48", after := #[{ on := 7, ground := Ground.chain }, { on := 7, ground := Ground.guard }], guard := some (7, true) } : Oper)) rfl (fun KK hKK => ?_) AllReadyH.nil
    go_simp
    (with_reducible refine (live14 _).mono ?_)
    rintro e0 y3 ⟨rfl, hb⟩
    have RB3 := Lib.hid (RB2.out.trans (hb.mono RB2.out.size))
    clear hb
    refine hKK.out _ _ (RB3.out) (fun hH3 => ?_)
    clear hKK KK
    try simp only [Act.put, List.setIfInBounds_toArray, List.set_cons_zero, List.set_cons_succ]
    refine wpAnyH_take (i := 9) (oi := ({ dst := some 20, op := Op.pick (Operand.tmp 18) (Operand.tmp 19) (Operand.const (Value.bool false)), type := 4, pos := "law.go:48", after := #[{ on := 7, ground := Ground.data }, { on := 8, ground := Ground.data }], guard := none } : Oper)) (v := ?hv54) rfl (by kernel_rfl) (by kernel_rfl) (by kernel_rfl) (fun _ _ _ h => h) (Or.inl ⟨by rfl, ?hy54⟩) (by assumption) ?hr54
    case hy54 => (intro w hSw; (try dsimp only at hSw); go_simp; (try with_reducible rfl))
    try simp only [Act.put, List.setIfInBounds_toArray, List.set_cons_zero, List.set_cons_succ]
    refine wpAnyH_take (i := 10) (oi := ({ dst := some 4, op := Op.assign (Operand.tmp 20), type := 4, pos := "law.go:48", after := #[{ on := 9, ground := Ground.data }, { on := 8, ground := Ground.chain }, { on := 0, ground := Ground.phase }, { on := 1, ground := Ground.phase }, { on := 2, ground := Ground.phase }, { on := 3, ground := Ground.phase }, { on := 4, ground := Ground.phase }, { on := 5, ground := Ground.phase }, { on := 6, ground := Ground.phase }, { on := 7, ground := Ground.phase }, { on := 8, ground := Ground.phase }, { on := 9, ground := Ground.phase }], guard := none } : Oper)) (v := ?hv55) rfl (by kernel_rfl) (by kernel_rfl) (by kernel_rfl) (fun _ _ _ h => h) (Or.inl ⟨by rfl, ?hy55⟩) (by assumption) ?hr55
    case hy55 => (intro w hSw; (try dsimp only at hSw); go_simp; (try with_reducible rfl))
    try simp only [Act.put, List.setIfInBounds_toArray, List.set_cons_zero, List.set_cons_succ]
    refine wpAnyH_done (by kernel_rfl) ?_ _
    go_wp2
    go_ret
    exact ⟨rfl, B4.out.trans (RB3.out.mono B4.out.size)⟩
  · go_wp2
    go_ret
    exact ⟨rfl, B4.out⟩
  · go_wp2
    go_ret
    exact ⟨rfl, B3.out⟩
theorem len_map {es ds : List Evd} (h : es.map dat = ds) : es.length = ds.length := by rw [← h, List.length_map]
theorem dat_at {es fs : List Evd} {m : Nat} (h : es.map dat = fs.map dat) (hm : es.length = m) : ∀ j, j < m → dat (es.getD j ev0) = dat (fs.getD j ev0) := fun j hj => by
  have hl : es.length = fs.length := by have := congrArg List.length h; simpa using this
  have h1 : (es.map dat)[j]? = (fs.map dat)[j]? := by rw [h]
  rw [List.getElem?_map, List.getElem?_map, List.getElem?_eq_getElem (by omega), List.getElem?_eq_getElem (by omega)] at h1
  rw [List.getD_eq_getElem?_getD, List.getD_eq_getElem?_getD, List.getElem?_eq_getElem (by omega), List.getElem?_eq_getElem (by omega)]
  exact Option.some.inj h1
theorem mem_from {E : Nat → Evd} {n : Nat} {e : Evd} {d : Evd} (h : d ∈ fromD E n e) : ∃ k, k < n ∧ d = dat (E k) := by
  unfold fromD fromK at h
  obtain ⟨q, _, hq⟩ := List.mem_filterMap.1 h
  cases hf : firstK E n e.p9 q with
  | none => rw [hf] at hq; cases hq
  | some k =>
    rw [hf] at hq
    have hd : dat (E k) = d := Option.some.inj hq
    refine ⟨k, ?_, hd.symm⟩
    unfold firstK at hf
    obtain ⟨z, _, hz⟩ := List.exists_of_findSome?_eq_some hf
    unfold hit at hz
    cases hp : pl E n z with
    | none => rw [hp] at hz; cases hz
    | some j =>
      rw [hp] at hz
      have hz' : (if isEq (kyE (E j)) q then some j else none) = some k := hz
      split at hz'
      · cases hz'; exact pl_lt hp
      · cases hz'
def FewD (ds : List Evd) : Prop := ∀ d ∈ ds, d.n8 ≤ 1000000 ∧ d.n9 ≤ 1000000
theorem few_from {E : Nat → Evd} {n : Nat} {e : Evd} (h : ∀ j, j < n → Fe (E j)) : FewD (fromD E n e) := fun d hd => by
  obtain ⟨k, hk, rfl⟩ := mem_from hd
  have := h k hk
  exact ⟨show (E k).n8 ≤ 1000000 by have := this.1; omega, show (E k).n9 ≤ 1000000 by have := this.2.1; omega⟩
theorem few_at {es ds : List Evd} (h : FewD ds) (he : es.map dat = ds) : ∀ j, j < ds.length → (es.getD j ev0).n8 ≤ 1000000 ∧ (es.getD j ev0).n9 ≤ 1000000 := fun j hj => by
  have hl := len_map he
  have hm : dat (es.getD j ev0) ∈ ds := by
    rw [← he, List.getD_eq_getElem?_getD, List.getElem?_eq_getElem (by omega)]
    exact List.mem_map.2 ⟨_, List.getElem_mem _, rfl⟩
  have h2 := h _ hm
  exact h2
set_option maxRecDepth 100000 in
set_option maxHeartbeats 8000000 in
theorem froms_walk (A : Option Addr) (n c : Nat) (E : Nat → Evd) (e : Evd) (w : World) (h0 : Evx w A n E) (hc : IsCt w e.C e.a) (h : Wfe e) (p8 : Its w e.a8 e.n8 e.c8 e.p8) (p9 : Its w e.a9 e.n9 e.c9 e.p9) : Calls Try.prog 6 #[.slice A n c, .agg (cellsE e).toArray] w fun r w' => r = .returned (.bool true) ∧ Below w.heap.size w w' := by
  show Calls Try.prog 6 #[.slice A n c, .agg #[.int .i64 e.e0, .string e.e1, .string e.e2, .int .i64 e.e3, .bool e.e4, .string e.e5, .int .i64 e.e6, .int .i64 e.e7, .slice e.a8 e.n8 e.c8, .slice e.a9 e.n9 e.c9, .string e.C.tx, .int .i64 e.C.n, .int .i64 e.C.tg, .bool e.C.th, .string e.C.via, .slice e.a.aA e.C.nA e.a.aC, .slice e.a.dA e.C.nD e.a.dC, .slice e.a.uA e.C.lv.nU e.a.uC, .slice e.a.kA e.C.lv.nK e.a.kC, .int .i64 e.C.lv.d, .int .i64 e.C.lv.x3, .int .i64 e.C.lv.x4, .int .i64 e.C.lv.x5, .int .i64 e.C.lv.x6, .int .i64 e.C.lv.x7, .int .i64 e.C.lv.x8, .int .i64 e.e26, .string e.e27, .int .i64 e.e28]] w _
  have BA := Lib.hid ((Below.refl w.heap.size w).alloc (Nat.le_refl _) (.cells #[.int .i64 e.e0, .string e.e1, .string e.e2, .int .i64 e.e3, .bool e.e4, .string e.e5, .int .i64 e.e6, .int .i64 e.e7, .slice e.a8 e.n8 e.c8, .slice e.a9 e.n9 e.c9, .string e.C.tx, .int .i64 e.C.n, .int .i64 e.C.tg, .bool e.C.th, .string e.C.via, .slice e.a.aA e.C.nA e.a.aC, .slice e.a.dA e.C.nD e.a.dC, .slice e.a.uA e.C.lv.nU e.a.uC, .slice e.a.kA e.C.lv.nK e.a.kC, .int .i64 e.C.lv.d, .int .i64 e.C.lv.x3, .int .i64 e.C.lv.x4, .int .i64 e.C.lv.x5, .int .i64 e.C.lv.x6, .int .i64 e.C.lv.x7, .int .i64 e.C.lv.x8, .int .i64 e.e26, .string e.e27, .int .i64 e.e28] 34))
  have XA : Hid (Blk (w.alloc (.cells #[.int .i64 e.e0, .string e.e1, .string e.e2, .int .i64 e.e3, .bool e.e4, .string e.e5, .int .i64 e.e6, .int .i64 e.e7, .slice e.a8 e.n8 e.c8, .slice e.a9 e.n9 e.c9, .string e.C.tx, .int .i64 e.C.n, .int .i64 e.C.tg, .bool e.C.th, .string e.C.via, .slice e.a.aA e.C.nA e.a.aC, .slice e.a.dA e.C.nD e.a.dC, .slice e.a.uA e.C.lv.nU e.a.uC, .slice e.a.kA e.C.lv.nK e.a.kC, .int .i64 e.C.lv.d, .int .i64 e.C.lv.x3, .int .i64 e.C.lv.x4, .int .i64 e.C.lv.x5, .int .i64 e.C.lv.x6, .int .i64 e.C.lv.x7, .int .i64 e.C.lv.x8, .int .i64 e.e26, .string e.e27, .int .i64 e.e28] 34)) w.heap.size (cellsE e) 34) := Lib.hid (blk_new w (cellsE e) 34)
  have H := Lib.hid (h0.below BA.out)
  have HGr := Lib.hid (great13 A n c 14 E _ H.out)
  have HLo := Lib.hid (fun u (hb : Below w.heap.size w u) => long19e e u (hc.below hb) h)
  have HWf := Lib.hid h
  have H9 := Lib.hid (p9.below BA.out)
  clear h0 hc h p8 p9
  go_enter Try.func6, Try.ntmps6
  go_upto_region 3 with (first
    | (go_at_call 18; (with_reducible refine HGr.out.mono ?_); rintro e1 w3 ⟨⟨q, rfl, hq⟩, hb⟩; have HQ := Lib.hid hq; have F3 := Lib.hid hb; have B3 := Lib.hid (BA.out.trans (hb.mono BA.out.size)); have R3 := Lib.hid (XA.out.below hb).range; clear hq hb; cases q)
    | (refine load_mid_g (by rfl) 34 _ rfl w.heap.size 0 rfl (cellsE e) _ R3.out Try.underlying34 rfl size39 ?_)
    | (go_at_call 10; (with_reducible refine (HLo.out _ B3.out).mono ?_); rintro e1 w4 ⟨⟨q, rfl, hq⟩, hb⟩; have HL := Lib.hid hq; have F4 := Lib.hid (F3.out.trans (hb.mono F3.out.size)); have X4 := Lib.hid (XA.out.below F4.out); have B4 := Lib.hid (B3.out.trans (hb.mono B3.out.size)); clear hq hb; cases q)
    | fail)
  · have HF := Lib.hid (show e.n9 ≤ 40 from (HL.out trivial).2.1)
    have HFe := Lib.hid (HQ.out trivial).2
    have C22 := Lib.hid (fun u (hb : Below w4.heap.size w4 u) => from22 A n c E e u (H.out.below (F4.out.trans (hb.mono F4.out.size))) HWf.out (H9.out.below (F4.out.trans (hb.mono F4.out.size))) (by have := HF.out; omega) HFe.out)
    have C23 := Lib.hid (fun u (hb : Below w4.heap.size w4 u) => rfrom23 A n c E e u (H.out.below (F4.out.trans (hb.mono F4.out.size))) HWf.out (H9.out.below (F4.out.trans (hb.mono F4.out.size))) (by have := HF.out; omega))
    have HFw := Lib.hid (few_from (e := e) HFe.out)
    unfold EvsP at C22 C23
    generalize fromD E n e = ds at C22 C23 HFw
    clear HGr HLo HQ HL BA XA R3 HFe
    refine wp_region_held_drew (S := (fun y => Below w4.heap.size w4 y)) (by kernel_rfl) ((Below.refl w4.heap.size w4).drew) (fun hH0 => ?_)
    generalize hy0 : World.drew _ = y0 at hH0 ⊢
    have RB0 : Hid (Below w4.heap.size w4 y0) := Lib.hid hH0
    clear hy0
    refine wpAnyH_take (i := 0) (oi := ({ dst := some 11, op := Op.move (Operand.tmp 0), type := 44, pos := "law.go:56", after := #[], guard := none } : Oper)) (v := ?hv56) rfl (by kernel_rfl) (by kernel_rfl) (by kernel_rfl) (fun _ _ _ h => h) (Or.inl ⟨by rfl, ?hy56⟩) (by assumption) ?hr56
    case hy56 => (intro w hSw; (try dsimp only at hSw); go_simp; (try with_reducible rfl))
    try simp only [Act.put, List.setIfInBounds_toArray, List.set_cons_zero, List.set_cons_succ]
    refine wpAnyH_take (i := 1) (oi := ({ dst := some 12, op := Op.load 34 (Operand.tmp 3), type := 34, pos := "law.go:56", after := #[], guard := none } : Oper)) (v := .agg (cellsE e).toArray) rfl (by kernel_rfl) (by kernel_rfl) (by kernel_rfl) (fun _ _ _ h => h) (yieldsIf_load_mid (by rfl) 34 _ rfl w.heap.size 0 rfl (cellsE e) _ (fun w0 hw0 => (X4.out.below hw0).range) Try.underlying34 rfl size39) (by assumption) ?_
    try simp only [Act.put, List.setIfInBounds_toArray, List.set_cons_zero, List.set_cons_succ]
    refine wpAnyH_take (i := 3) (oi := ({ dst := some 14, op := Op.move (Operand.tmp 0), type := 44, pos := "law.go:56", after := #[], guard := none } : Oper)) (v := ?hv57) rfl (by kernel_rfl) (by kernel_rfl) (by kernel_rfl) (fun _ _ _ h => h) (Or.inl ⟨by rfl, ?hy57⟩) (by assumption) ?hr57
    case hy57 => (intro w hSw; (try dsimp only at hSw); go_simp; (try with_reducible rfl))
    try simp only [Act.put, List.setIfInBounds_toArray, List.set_cons_zero, List.set_cons_succ]
    refine wpAnyH_take (i := 4) (oi := ({ dst := some 15, op := Op.load 34 (Operand.tmp 3), type := 34, pos := "law.go:56", after := #[], guard := none } : Oper)) (v := .agg (cellsE e).toArray) rfl (by kernel_rfl) (by kernel_rfl) (by kernel_rfl) (fun _ _ _ h => h) (yieldsIf_load_mid (by rfl) 34 _ rfl w.heap.size 0 rfl (cellsE e) _ (fun w0 hw0 => (X4.out.below hw0).range) Try.underlying34 rfl size39) (by assumption) ?_
    try simp only [Act.put, List.setIfInBounds_toArray, List.set_cons_zero, List.set_cons_succ]
    refine wpAnyH_ready (rs := [2]) (by kernel_rfl) (by simp) ?_
    refine AllReadyH.cons (o := ({ dst := some 13, op := Op.call { callee := Callee.value (Operand.func 22), args := #[Operand.tmp 11, Operand.tmp 12], argTypes := #[44, 34] }, type := 44, pos := "law.go:56", after := #[{ on := 0, ground := Ground.data }, { on := 1, ground := Ground.data }], guard := none } : Oper)) rfl (fun KK hKK => ?_) AllReadyH.nil
    go_simp
    (with_reducible refine (C22.out _ RB0.out).mono ?_)
    rintro e0 y1 ⟨A1, c1, es1, rfl, hx, he, hb⟩
    have RB1 := Lib.hid (RB0.out.trans (hb.mono RB0.out.size))
    have G1 := Lib.hid hx; have E1 := Lib.hid he
    clear hb
    refine hKK.out _ _ (RB1.out) (fun hH1 => ?_)
    clear hKK KK
    try simp only [Act.put, List.setIfInBounds_toArray, List.set_cons_zero, List.set_cons_succ]
    refine wpAnyH_ready (rs := [5]) (by kernel_rfl) (by simp) ?_
    refine AllReadyH.cons (o := ({ dst := some 16, op := Op.call { callee := Callee.value (Operand.func 23), args := #[Operand.tmp 14, Operand.tmp 15], argTypes := #[44, 34] }, type := 44, pos := "law.go:56", after := #[{ on := 3, ground := Ground.data }, { on := 4, ground := Ground.data }, { on := 2, ground := Ground.chain }], guard := none } : Oper)) rfl (fun KK hKK => ?_) AllReadyH.nil
    go_simp
    (with_reducible refine (C23.out _ RB1.out).mono ?_)
    rintro e0 y2 ⟨A2, c2, es2, rfl, hx, he, hb⟩
    have RB2 := Lib.hid (RB1.out.trans (hb.mono RB1.out.size))
    have G1 := Lib.hid (G1.out.below hb)
    have G2 := Lib.hid hx; have E2 := Lib.hid he
    clear hb
    refine hKK.out _ _ (RB2.out) (fun hH2 => ?_)
    clear hKK KK
    try simp only [Act.put, List.setIfInBounds_toArray, List.set_cons_zero, List.set_cons_succ]
    refine wpAnyH_ready (rs := [6]) (by kernel_rfl) (by simp) ?_
    refine AllReadyH.cons (o := ({ dst := some 17, op := Op.call { callee := Callee.value (Operand.func 21), args := #[Operand.tmp 13, Operand.tmp 16], argTypes := #[44, 44] }, type := 4, pos := "law.go:56", after := #[{ on := 2, ground := Ground.data }, { on := 5, ground := Ground.data }, { on := 5, ground := Ground.chain }], guard := none } : Oper)) rfl (fun KK hKK => ?_) AllReadyH.nil
    go_simp
    (with_reducible refine (sameAll21 _ _ ds.length _ _ _ _ _ G1.out G2.out (dat_at (E1.out.trans E2.out.symm) (len_map E1.out)) (few_at HFw.out E1.out)).mono ?_)
    rintro e0 y3 ⟨rfl, hb⟩
    have RB3 := Lib.hid (RB2.out.trans (hb.mono RB2.out.size))
    have G1 := Lib.hid (G1.out.below hb)
    have G2 := Lib.hid (G2.out.below hb)
    clear hb
    refine hKK.out _ _ (RB3.out) (fun hH3 => ?_)
    clear hKK KK
    try simp only [Act.put, List.setIfInBounds_toArray, List.set_cons_zero, List.set_cons_succ]
    refine wpAnyH_take (i := 7) (oi := ({ dst := some 18, op := Op.move (Operand.tmp 17), type := 4, pos := "law.go:56", after := #[{ on := 6, ground := Ground.data }, { on := 6, ground := Ground.chain }], guard := none } : Oper)) (v := ?hv58) rfl (by kernel_rfl) (by kernel_rfl) (by kernel_rfl) (fun _ _ _ h => h) (Or.inl ⟨by rfl, ?hy58⟩) (by assumption) ?hr58
    case hy58 => (intro w hSw; (try dsimp only at hSw); go_simp; (try with_reducible rfl))
    try simp only [Act.put, List.setIfInBounds_toArray, List.set_cons_zero, List.set_cons_succ]
    refine wpAnyH_ready (rs := [8]) (by kernel_rfl) (by simp) ?_
    refine AllReadyH.cons (o := ({ dst := some 19, op := Op.call { callee := Callee.value (Operand.func 14), args := #[], argTypes := #[] }, type := 4, pos := "law.go:56", after := #[{ on := 7, ground := Ground.chain }, { on := 7, ground := Ground.guard }], guard := some (7, true) } : Oper)) rfl (fun KK hKK => ?_) AllReadyH.nil
    go_simp
    (with_reducible refine (live14 _).mono ?_)
    rintro e0 y4 ⟨rfl, hb⟩
    have RB4 := Lib.hid (RB3.out.trans (hb.mono RB3.out.size))
    have G1 := Lib.hid (G1.out.below hb)
    have G2 := Lib.hid (G2.out.below hb)
    clear hb
    refine hKK.out _ _ (RB4.out) (fun hH4 => ?_)
    clear hKK KK
    try simp only [Act.put, List.setIfInBounds_toArray, List.set_cons_zero, List.set_cons_succ]
    refine wpAnyH_take (i := 9) (oi := ({ dst := some 20, op := Op.pick (Operand.tmp 18) (Operand.tmp 19) (Operand.const (Value.bool false)), type := 4, pos := "law.go:56", after := #[{ on := 7, ground := Ground.data }, { on := 8, ground := Ground.data }], guard := none } : Oper)) (v := ?hv59) rfl (by kernel_rfl) (by kernel_rfl) (by kernel_rfl) (fun _ _ _ h => h) (Or.inl ⟨by rfl, ?hy59⟩) (by assumption) ?hr59
    case hy59 => (intro w hSw; (try dsimp only at hSw); go_simp; (try with_reducible rfl))
    try simp only [Act.put, List.setIfInBounds_toArray, List.set_cons_zero, List.set_cons_succ]
    refine wpAnyH_take (i := 10) (oi := ({ dst := some 4, op := Op.assign (Operand.tmp 20), type := 4, pos := "law.go:56", after := #[{ on := 9, ground := Ground.data }, { on := 8, ground := Ground.chain }, { on := 0, ground := Ground.phase }, { on := 1, ground := Ground.phase }, { on := 2, ground := Ground.phase }, { on := 3, ground := Ground.phase }, { on := 4, ground := Ground.phase }, { on := 5, ground := Ground.phase }, { on := 6, ground := Ground.phase }, { on := 7, ground := Ground.phase }, { on := 8, ground := Ground.phase }, { on := 9, ground := Ground.phase }], guard := none } : Oper)) (v := ?hv60) rfl (by kernel_rfl) (by kernel_rfl) (by kernel_rfl) (fun _ _ _ h => h) (Or.inl ⟨by rfl, ?hy60⟩) (by assumption) ?hr60
    case hy60 => (intro w hSw; (try dsimp only at hSw); go_simp; (try with_reducible rfl))
    try simp only [Act.put, List.setIfInBounds_toArray, List.set_cons_zero, List.set_cons_succ]
    refine wpAnyH_done (by kernel_rfl) ?_ _
    go_wp2
    go_ret
    exact ⟨rfl, B4.out.trans (RB4.out.mono B4.out.size)⟩
  · go_wp2
    go_ret
    exact ⟨rfl, B4.out⟩
  · go_wp2
    go_ret
    exact ⟨rfl, B3.out⟩
end Go.Proofs.Ytbedibiodlgegaa
