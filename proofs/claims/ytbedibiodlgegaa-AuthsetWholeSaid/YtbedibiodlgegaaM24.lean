/- AuthsetWhole: its walk. -/
import Derived.Test.YtbedibiodlgegaaK21
import Derived.Test.YtbedibiodlgegaaK17
namespace Go.Proofs.Ytbedibiodlgegaa
open Go Go.RowKit
set_option linter.unusedVariables false
set_option linter.unusedSimpArgs false

set_option maxRecDepth 100000 in
set_option maxHeartbeats 8000000 in
theorem fits_walk (A : Option Addr) (n c : Nat) (E : Nat → Evd) (e : Evd) (w : World) (h0 : Evx w A n E) (hc : IsCt w e.C e.a) (h : Wfe e) (p8 : Its w e.a8 e.n8 e.c8 e.p8) (p9 : Its w e.a9 e.n9 e.c9 e.p9) : Calls Try.prog 5 #[.slice A n c, .agg (cellsE e).toArray] w fun r w' => r = .returned (.bool true) ∧ Below w.heap.size w w' := by
  show Calls Try.prog 5 #[.slice A n c, .agg #[.int .i64 e.e0, .string e.e1, .string e.e2, .int .i64 e.e3, .bool e.e4, .string e.e5, .int .i64 e.e6, .int .i64 e.e7, .slice e.a8 e.n8 e.c8, .slice e.a9 e.n9 e.c9, .string e.C.tx, .int .i64 e.C.n, .int .i64 e.C.tg, .bool e.C.th, .string e.C.via, .slice e.a.aA e.C.nA e.a.aC, .slice e.a.dA e.C.nD e.a.dC, .slice e.a.uA e.C.lv.nU e.a.uC, .slice e.a.kA e.C.lv.nK e.a.kC, .int .i64 e.C.lv.d, .int .i64 e.C.lv.x3, .int .i64 e.C.lv.x4, .int .i64 e.C.lv.x5, .int .i64 e.C.lv.x6, .int .i64 e.C.lv.x7, .int .i64 e.C.lv.x8, .int .i64 e.e26, .string e.e27, .int .i64 e.e28]] w _
  have BA := Lib.hid ((Below.refl w.heap.size w).alloc (Nat.le_refl _) (.cells #[.int .i64 e.e0, .string e.e1, .string e.e2, .int .i64 e.e3, .bool e.e4, .string e.e5, .int .i64 e.e6, .int .i64 e.e7, .slice e.a8 e.n8 e.c8, .slice e.a9 e.n9 e.c9, .string e.C.tx, .int .i64 e.C.n, .int .i64 e.C.tg, .bool e.C.th, .string e.C.via, .slice e.a.aA e.C.nA e.a.aC, .slice e.a.dA e.C.nD e.a.dC, .slice e.a.uA e.C.lv.nU e.a.uC, .slice e.a.kA e.C.lv.nK e.a.kC, .int .i64 e.C.lv.d, .int .i64 e.C.lv.x3, .int .i64 e.C.lv.x4, .int .i64 e.C.lv.x5, .int .i64 e.C.lv.x6, .int .i64 e.C.lv.x7, .int .i64 e.C.lv.x8, .int .i64 e.e26, .string e.e27, .int .i64 e.e28] 34))
  have XA : Hid (Blk (w.alloc (.cells #[.int .i64 e.e0, .string e.e1, .string e.e2, .int .i64 e.e3, .bool e.e4, .string e.e5, .int .i64 e.e6, .int .i64 e.e7, .slice e.a8 e.n8 e.c8, .slice e.a9 e.n9 e.c9, .string e.C.tx, .int .i64 e.C.n, .int .i64 e.C.tg, .bool e.C.th, .string e.C.via, .slice e.a.aA e.C.nA e.a.aC, .slice e.a.dA e.C.nD e.a.dC, .slice e.a.uA e.C.lv.nU e.a.uC, .slice e.a.kA e.C.lv.nK e.a.kC, .int .i64 e.C.lv.d, .int .i64 e.C.lv.x3, .int .i64 e.C.lv.x4, .int .i64 e.C.lv.x5, .int .i64 e.C.lv.x6, .int .i64 e.C.lv.x7, .int .i64 e.C.lv.x8, .int .i64 e.e26, .string e.e27, .int .i64 e.e28] 34)) w.heap.size (cellsE e) 34) := Lib.hid (blk_new w (cellsE e) 34)
  have H := Lib.hid (h0.below BA.out)
  have HGr := Lib.hid (great13 A n c 14 E _ H.out)
  have HLo := Lib.hid (fun u (hb : Below w.heap.size w u) => long19e e u (hc.below hb) h)
  have HWf := Lib.hid h
  have H9 := Lib.hid (p9.below BA.out)
  clear h0 hc h p8 p9
  go_enter Try.func5, Try.ntmps5
  go_upto_region 3 with (first
    | (go_at_call 18; (with_reducible refine HGr.out.mono ?_); rintro e1 w3 ⟨⟨q, rfl, hq⟩, hb⟩; have HQ := Lib.hid hq; have F3 := Lib.hid hb; have B3 := Lib.hid (BA.out.trans (hb.mono BA.out.size)); have R3 := Lib.hid (XA.out.below hb).range; clear hq hb; cases q)
    | (refine load_mid_g (by rfl) 34 _ rfl w.heap.size 0 rfl (cellsE e) _ R3.out Try.underlying34 rfl size39 ?_)
    | (go_at_call 10; (with_reducible refine (HLo.out _ B3.out).mono ?_); rintro e1 w4 ⟨⟨q, rfl, hq⟩, hb⟩; have HL := Lib.hid hq; have F4 := Lib.hid (F3.out.trans (hb.mono F3.out.size)); have X4 := Lib.hid (XA.out.below F4.out); have B4 := Lib.hid (B3.out.trans (hb.mono B3.out.size)); clear hq hb; cases q)
    | fail)
  · have HF := Lib.hid (show e.n9 ≤ 40 from (HL.out trivial).2.1)
    have C19 := Lib.hid (fun u (hb : Below w4.heap.size w4 u) => fits19 A n c E e u (H.out.below (F4.out.trans (hb.mono F4.out.size))) HWf.out (H9.out.below (F4.out.trans (hb.mono F4.out.size))) (by have := HF.out; omega))
    have C20 := Lib.hid (fun u (hb : Below w4.heap.size w4 u) => rfits20 A n c E e u (H.out.below (F4.out.trans (hb.mono F4.out.size))) HWf.out (H9.out.below (F4.out.trans (hb.mono F4.out.size))) (by have := HF.out; omega))
    generalize fitsE E n e = ft at C19 C20
    clear HGr HLo HQ HL BA XA R3
    refine wp_region_held_drew (S := (fun y => Below w4.heap.size w4 y)) (by kernel_rfl) ((Below.refl w4.heap.size w4).drew) (fun hH0 => ?_)
    generalize hy0 : World.drew _ = y0 at hH0 ⊢
    have RB0 : Hid (Below w4.heap.size w4 y0) := Lib.hid hH0
    clear hy0
    refine wpAnyH_take (i := 0) (oi := ({ dst := some 11, op := Op.move (Operand.tmp 0), type := 44, pos := "law.go:48", after := #[], guard := none } : Oper)) (v := ?hv50) rfl (by kernel_rfl) (by kernel_rfl) (by kernel_rfl) (fun _ _ _ h => h) (Or.inl ⟨by rfl, ?hy50⟩) (by assumption) ?hr50
    case hy50 => (intro w hSw; (try dsimp only at hSw); go_simp; (try with_reducible rfl))
    try simp only [Act.put, List.setIfInBounds_toArray, List.set_cons_zero, List.set_cons_succ]
    refine wpAnyH_take (i := 1) (oi := ({ dst := some 12, op := Op.load 34 (Operand.tmp 3), type := 34, pos := "law.go:48", after := #[], guard := none } : Oper)) (v := .agg (cellsE e).toArray) rfl (by kernel_rfl) (by kernel_rfl) (by kernel_rfl) (fun _ _ _ h => h) (yieldsIf_load_mid (by rfl) 34 _ rfl w.heap.size 0 rfl (cellsE e) _ (fun w0 hw0 => (X4.out.below hw0).range) Try.underlying34 rfl size39) (by assumption) ?_
    try simp only [Act.put, List.setIfInBounds_toArray, List.set_cons_zero, List.set_cons_succ]
    refine wpAnyH_take (i := 3) (oi := ({ dst := some 14, op := Op.move (Operand.tmp 0), type := 44, pos := "law.go:48", after := #[], guard := none } : Oper)) (v := ?hv51) rfl (by kernel_rfl) (by kernel_rfl) (by kernel_rfl) (fun _ _ _ h => h) (Or.inl ⟨by rfl, ?hy51⟩) (by assumption) ?hr51
    case hy51 => (intro w hSw; (try dsimp only at hSw); go_simp; (try with_reducible rfl))
    try simp only [Act.put, List.setIfInBounds_toArray, List.set_cons_zero, List.set_cons_succ]
    refine wpAnyH_take (i := 4) (oi := ({ dst := some 15, op := Op.load 34 (Operand.tmp 3), type := 34, pos := "law.go:48", after := #[], guard := none } : Oper)) (v := .agg (cellsE e).toArray) rfl (by kernel_rfl) (by kernel_rfl) (by kernel_rfl) (fun _ _ _ h => h) (yieldsIf_load_mid (by rfl) 34 _ rfl w.heap.size 0 rfl (cellsE e) _ (fun w0 hw0 => (X4.out.below hw0).range) Try.underlying34 rfl size39) (by assumption) ?_
    try simp only [Act.put, List.setIfInBounds_toArray, List.set_cons_zero, List.set_cons_succ]
    refine wpAnyH_ready (rs := [2]) (by kernel_rfl) (by simp) ?_
    refine AllReadyH.cons (o := ({ dst := some 13, op := Op.call { callee := Callee.value (Operand.func 19), args := #[Operand.tmp 11, Operand.tmp 12], argTypes := #[44, 34] }, type := 46, pos := "law.go:48", after := #[{ on := 0, ground := Ground.data }, { on := 1, ground := Ground.data }], guard := none } : Oper)) rfl (fun KK hKK => ?_) AllReadyH.nil
    go_simp
    (with_reducible refine (C19.out _ RB0.out).mono ?_)
    rintro e0 y1 ⟨rfl, hb⟩
    have RB1 := Lib.hid (RB0.out.trans (hb.mono RB0.out.size))
    clear hb
    refine hKK.out _ _ (RB1.out) (fun hH1 => ?_)
    clear hKK KK
    try simp only [Act.put, List.setIfInBounds_toArray, List.set_cons_zero, List.set_cons_succ]
    refine wpAnyH_ready (rs := [5]) (by kernel_rfl) (by simp) ?_
    refine AllReadyH.cons (o := ({ dst := some 16, op := Op.call { callee := Callee.value (Operand.func 20), args := #[Operand.tmp 14, Operand.tmp 15], argTypes := #[44, 34] }, type := 46, pos := "law.go:48", after := #[{ on := 3, ground := Ground.data }, { on := 4, ground := Ground.data }, { on := 2, ground := Ground.chain }], guard := none } : Oper)) rfl (fun KK hKK => ?_) AllReadyH.nil
    go_simp
    (with_reducible refine (C20.out _ RB1.out).mono ?_)
    rintro e0 y2 ⟨rfl, hb⟩
    have RB2 := Lib.hid (RB1.out.trans (hb.mono RB1.out.size))
    clear hb
    refine hKK.out _ _ (RB2.out) (fun hH2 => ?_)
    clear hKK KK
    try simp only [Act.put, List.setIfInBounds_toArray, List.set_cons_zero, List.set_cons_succ]
    refine wpAnyH_take (i := 6) (oi := ({ dst := some 17, op := Op.binOp BinOp.eql 46 (Operand.tmp 13) (Operand.tmp 16) 46, type := 4, pos := "law.go:48", after := #[{ on := 2, ground := Ground.data }, { on := 5, ground := Ground.data }], guard := none } : Oper)) (v := ?hv52) rfl (by kernel_rfl) (by kernel_rfl) (by kernel_rfl) (fun _ _ _ h => h) (Or.inl ⟨by rfl, ?hy52⟩) (by assumption) ?hr52
    case hy52 => (intro w hSw; (try dsimp only at hSw); go_simp; (try with_reducible rfl))
    try simp only [Act.put, List.setIfInBounds_toArray, List.set_cons_zero, List.set_cons_succ]
    refine wpAnyH_take (i := 7) (oi := ({ dst := some 18, op := Op.move (Operand.tmp 17), type := 4, pos := "law.go:48", after := #[{ on := 6, ground := Ground.data }, { on := 5, ground := Ground.chain }], guard := none } : Oper)) (v := ?hv53) rfl (by kernel_rfl) (by kernel_rfl) (by kernel_rfl) (fun _ _ _ h => h) (Or.inl ⟨by rfl, ?hy53⟩) (by assumption) ?hr53
    case hy53 => (intro w hSw; (try dsimp only at hSw); go_simp; (try with_reducible rfl))
    try simp only [Act.put, List.setIfInBounds_toArray, List.set_cons_zero, List.set_cons_succ]
    refine wpAnyH_ready (rs := [8]) (by kernel_rfl) (by simp) ?_
    refine AllReadyH.cons (o := ({ dst := some 19, op := Op.call { callee := Callee.value (Operand.func 14), args := #[], argTypes := #[] }, type := 4, pos := "law.go:48", after := #[{ on := 7, ground := Ground.chain }, { on := 7, ground := Ground.guard }], guard := some (7, true) } : Oper)) rfl (fun KK hKK => ?_) AllReadyH.nil
    go_simp
    (with_reducible refine (live14 _).mono ?_)
    rintro e0 y3 ⟨rfl, hb⟩
    have RB3 := Lib.hid (RB2.out.trans (hb.mono RB2.out.size))
    clear hb
    refine hKK.out _ _ (RB3.out) (fun hH3 => ?_)
    clear hKK KK
    try simp only [Act.put, List.setIfInBounds_toArray, List.set_cons_zero, List.set_cons_succ]
    refine wpAnyH_take (i := 9) (oi := ({ dst := some 20, op := Op.pick (Operand.tmp 18) (Operand.tmp 19) (Operand.const (Value.bool false)), type := 4, pos := "law.go:48", after := #[{ on := 7, ground := Ground.data }, { on := 8, ground := Ground.data }], guard := none } : Oper)) (v := ?hv54) rfl (by kernel_rfl) (by kernel_rfl) (by kernel_rfl) (fun _ _ _ h => h) (Or.inl ⟨by rfl, ?hy54⟩) (by assumption) ?hr54
    case hy54 => (intro w hSw; (try dsimp only at hSw); go_simp; (try with_reducible rfl))
    try simp only [Act.put, List.setIfInBounds_toArray, List.set_cons_zero, List.set_cons_succ]
    refine wpAnyH_take (i := 10) (oi := ({ dst := some 4, op := Op.assign (Operand.tmp 20), type := 4, pos := "law.go:48", after := #[{ on := 9, ground := Ground.data }, { on := 8, ground := Ground.chain }, { on := 0, ground := Ground.phase }, { on := 1, ground := Ground.phase }, { on := 2, ground := Ground.phase }, { on := 3, ground := Ground.phase }, { on := 4, ground := Ground.phase }, { on := 5, ground := Ground.phase }, { on := 6, ground := Ground.phase }, { on := 7, ground := Ground.phase }, { on := 8, ground := Ground.phase }, { on := 9, ground := Ground.phase }], guard := none } : Oper)) (v := ?hv55) rfl (by kernel_rfl) (by kernel_rfl) (by kernel_rfl) (fun _ _ _ h => h) (Or.inl ⟨by rfl, ?hy55⟩) (by assumption) ?hr55
    case hy55 => (intro w hSw; (try dsimp only at hSw); go_simp; (try with_reducible rfl))
    try simp only [Act.put, List.setIfInBounds_toArray, List.set_cons_zero, List.set_cons_succ]
    refine wpAnyH_done (by kernel_rfl) ?_ _
    go_wp2
    go_ret
    exact ⟨rfl, B4.out.trans (RB3.out.mono B4.out.size)⟩
  · go_wp2
    go_ret
    exact ⟨rfl, B4.out⟩
  · go_wp2
    go_ret
    exact ⟨rfl, B3.out⟩
theorem len_map {es ds : List Evd} (h : es.map dat = ds) : es.length = ds.length := by rw [← h, List.length_map]
theorem dat_at {es fs : List Evd} {m : Nat} (h : es.map dat = fs.map dat) (hm : es.length = m) : ∀ j, j < m → dat (es.getD j ev0) = dat (fs.getD j ev0) := fun j hj => by
  have hl : es.length = fs.length := by have := congrArg List.length h; simpa using this
  have h1 : (es.map dat)[j]? = (fs.map dat)[j]? := by rw [h]
  rw [List.getElem?_map, List.getElem?_map, List.getElem?_eq_getElem (by omega), List.getElem?_eq_getElem (by omega)] at h1
  rw [List.getD_eq_getElem?_getD, List.getD_eq_getElem?_getD, List.getElem?_eq_getElem (by omega), List.getElem?_eq_getElem (by omega)]
  exact Option.some.inj h1
theorem mem_from {E : Nat → Evd} {n : Nat} {e : Evd} {d : Evd} (h : d ∈ fromD E n e) : ∃ k, k < n ∧ d = dat (E k) := by
  unfold fromD fromK at h
  obtain ⟨q, _, hq⟩ := List.mem_filterMap.1 h
  cases hf : firstK E n e.p9 q with
  | none => rw [hf] at hq; cases hq
  | some k =>
    rw [hf] at hq
    have hd : dat (E k) = d := Option.some.inj hq
    refine ⟨k, ?_, hd.symm⟩
    unfold firstK at hf
    obtain ⟨z, _, hz⟩ := List.exists_of_findSome?_eq_some hf
    unfold hit at hz
    cases hp : pl E n z with
    | none => rw [hp] at hz; cases hz
    | some j =>
      rw [hp] at hz
      have hz' : (if isEq (kyE (E j)) q then some j else none) = some k := hz
      split at hz'
      · cases hz'; exact pl_lt hp
      · cases hz'
def FewD (ds : List Evd) : Prop := ∀ d ∈ ds, d.n8 ≤ 1000000 ∧ d.n9 ≤ 1000000
theorem few_from {E : Nat → Evd} {n : Nat} {e : Evd} (h : ∀ j, j < n → Fe (E j)) : FewD (fromD E n e) := fun d hd => by
  obtain ⟨k, hk, rfl⟩ := mem_from hd
  have := h k hk
  exact ⟨show (E k).n8 ≤ 1000000 by have := this.1; omega, show (E k).n9 ≤ 1000000 by have := this.2.1; omega⟩
theorem few_at {es ds : List Evd} (h : FewD ds) (he : es.map dat = ds) : ∀ j, j < ds.length → (es.getD j ev0).n8 ≤ 1000000 ∧ (es.getD j ev0).n9 ≤ 1000000 := fun j hj => by
  have hl := len_map he
  have hm : dat (es.getD j ev0) ∈ ds := by
    rw [← he, List.getD_eq_getElem?_getD, List.getElem?_eq_getElem (by omega)]
    exact List.mem_map.2 ⟨_, List.getElem_mem _, rfl⟩
  have h2 := h _ hm
  exact h2
set_option maxRecDepth 100000 in
set_option maxHeartbeats 8000000 in
theorem froms_walk (A : Option Addr) (n c : Nat) (E : Nat → Evd) (e : Evd) (w : World) (h0 : Evx w A n E) (hc : IsCt w e.C e.a) (h : Wfe e) (p8 : Its w e.a8 e.n8 e.c8 e.p8) (p9 : Its w e.a9 e.n9 e.c9 e.p9) : Calls Try.prog 6 #[.slice A n c, .agg (cellsE e).toArray] w fun r w' => r = .returned (.bool true) ∧ Below w.heap.size w w' := by
  show Calls Try.prog 6 #[.slice A n c, .agg #[.int .i64 e.e0, .string e.e1, .string e.e2, .int .i64 e.e3, .bool e.e4, .string e.e5, .int .i64 e.e6, .int .i64 e.e7, .slice e.a8 e.n8 e.c8, .slice e.a9 e.n9 e.c9, .string e.C.tx, .int .i64 e.C.n, .int .i64 e.C.tg, .bool e.C.th, .string e.C.via, .slice e.a.aA e.C.nA e.a.aC, .slice e.a.dA e.C.nD e.a.dC, .slice e.a.uA e.C.lv.nU e.a.uC, .slice e.a.kA e.C.lv.nK e.a.kC, .int .i64 e.C.lv.d, .int .i64 e.C.lv.x3, .int .i64 e.C.lv.x4, .int .i64 e.C.lv.x5, .int .i64 e.C.lv.x6, .int .i64 e.C.lv.x7, .int .i64 e.C.lv.x8, .int .i64 e.e26, .string e.e27, .int .i64 e.e28]] w _
  have BA := Lib.hid ((Below.refl w.heap.size w).alloc (Nat.le_refl _) (.cells #[.int .i64 e.e0, .string e.e1, .string e.e2, .int .i64 e.e3, .bool e.e4, .string e.e5, .int .i64 e.e6, .int .i64 e.e7, .slice e.a8 e.n8 e.c8, .slice e.a9 e.n9 e.c9, .string e.C.tx, .int .i64 e.C.n, .int .i64 e.C.tg, .bool e.C.th, .string e.C.via, .slice e.a.aA e.C.nA e.a.aC, .slice e.a.dA e.C.nD e.a.dC, .slice e.a.uA e.C.lv.nU e.a.uC, .slice e.a.kA e.C.lv.nK e.a.kC, .int .i64 e.C.lv.d, .int .i64 e.C.lv.x3, .int .i64 e.C.lv.x4, .int .i64 e.C.lv.x5, .int .i64 e.C.lv.x6, .int .i64 e.C.lv.x7, .int .i64 e.C.lv.x8, .int .i64 e.e26, .string e.e27, .int .i64 e.e28] 34))
  have XA : Hid (Blk (w.alloc (.cells #[.int .i64 e.e0, .string e.e1, .string e.e2, .int .i64 e.e3, .bool e.e4, .string e.e5, .int .i64 e.e6, .int .i64 e.e7, .slice e.a8 e.n8 e.c8, .slice e.a9 e.n9 e.c9, .string e.C.tx, .int .i64 e.C.n, .int .i64 e.C.tg, .bool e.C.th, .string e.C.via, .slice e.a.aA e.C.nA e.a.aC, .slice e.a.dA e.C.nD e.a.dC, .slice e.a.uA e.C.lv.nU e.a.uC, .slice e.a.kA e.C.lv.nK e.a.kC, .int .i64 e.C.lv.d, .int .i64 e.C.lv.x3, .int .i64 e.C.lv.x4, .int .i64 e.C.lv.x5, .int .i64 e.C.lv.x6, .int .i64 e.C.lv.x7, .int .i64 e.C.lv.x8, .int .i64 e.e26, .string e.e27, .int .i64 e.e28] 34)) w.heap.size (cellsE e) 34) := Lib.hid (blk_new w (cellsE e) 34)
  have H := Lib.hid (h0.below BA.out)
  have HGr := Lib.hid (great13 A n c 14 E _ H.out)
  have HLo := Lib.hid (fun u (hb : Below w.heap.size w u) => long19e e u (hc.below hb) h)
  have HWf := Lib.hid h
  have H9 := Lib.hid (p9.below BA.out)
  clear h0 hc h p8 p9
  go_enter Try.func6, Try.ntmps6
  go_upto_region 3 with (first
    | (go_at_call 18; (with_reducible refine HGr.out.mono ?_); rintro e1 w3 ⟨⟨q, rfl, hq⟩, hb⟩; have HQ := Lib.hid hq; have F3 := Lib.hid hb; have B3 := Lib.hid (BA.out.trans (hb.mono BA.out.size)); have R3 := Lib.hid (XA.out.below hb).range; clear hq hb; cases q)
    | (refine load_mid_g (by rfl) 34 _ rfl w.heap.size 0 rfl (cellsE e) _ R3.out Try.underlying34 rfl size39 ?_)
    | (go_at_call 10; (with_reducible refine (HLo.out _ B3.out).mono ?_); rintro e1 w4 ⟨⟨q, rfl, hq⟩, hb⟩; have HL := Lib.hid hq; have F4 := Lib.hid (F3.out.trans (hb.mono F3.out.size)); have X4 := Lib.hid (XA.out.below F4.out); have B4 := Lib.hid (B3.out.trans (hb.mono B3.out.size)); clear hq hb; cases q)
    | fail)
  · have HF := Lib.hid (show e.n9 ≤ 40 from (HL.out trivial).2.1)
    have HFe := Lib.hid (HQ.out trivial).2
    have C22 := Lib.hid (fun u (hb : Below w4.heap.size w4 u) => from22 A n c E e u (H.out.below (F4.out.trans (hb.mono F4.out.size))) HWf.out (H9.out.below (F4.out.trans (hb.mono F4.out.size))) (by have := HF.out; omega) HFe.out)
    have C23 := Lib.hid (fun u (hb : Below w4.heap.size w4 u) => rfrom23 A n c E e u (H.out.below (F4.out.trans (hb.mono F4.out.size))) HWf.out (H9.out.below (F4.out.trans (hb.mono F4.out.size))) (by have := HF.out; omega))
    have HFw := Lib.hid (few_from (e := e) HFe.out)
    unfold EvsP at C22 C23
    generalize fromD E n e = ds at C22 C23 HFw
    clear HGr HLo HQ HL BA XA R3 HFe
    refine wp_region_held_drew (S := (fun y => Below w4.heap.size w4 y)) (by kernel_rfl) ((Below.refl w4.heap.size w4).drew) (fun hH0 => ?_)
    generalize hy0 : World.drew _ = y0 at hH0 ⊢
    have RB0 : Hid (Below w4.heap.size w4 y0) := Lib.hid hH0
    clear hy0
    refine wpAnyH_take (i := 0) (oi := ({ dst := some 11, op := Op.move (Operand.tmp 0), type := 44, pos := "law.go:56", after := #[], guard := none } : Oper)) (v := ?hv56) rfl (by kernel_rfl) (by kernel_rfl) (by kernel_rfl) (fun _ _ _ h => h) (Or.inl ⟨by rfl, ?hy56⟩) (by assumption) ?hr56
    case hy56 => (intro w hSw; (try dsimp only at hSw); go_simp; (try with_reducible rfl))
    try simp only [Act.put, List.setIfInBounds_toArray, List.set_cons_zero, List.set_cons_succ]
    refine wpAnyH_take (i := 1) (oi := ({ dst := some 12, op := Op.load 34 (Operand.tmp 3), type := 34, pos := "law.go:56", after := #[], guard := none } : Oper)) (v := .agg (cellsE e).toArray) rfl (by kernel_rfl) (by kernel_rfl) (by kernel_rfl) (fun _ _ _ h => h) (yieldsIf_load_mid (by rfl) 34 _ rfl w.heap.size 0 rfl (cellsE e) _ (fun w0 hw0 => (X4.out.below hw0).range) Try.underlying34 rfl size39) (by assumption) ?_
    try simp only [Act.put, List.setIfInBounds_toArray, List.set_cons_zero, List.set_cons_succ]
    refine wpAnyH_take (i := 3) (oi := ({ dst := some 14, op := Op.move (Operand.tmp 0), type := 44, pos := "law.go:56", after := #[], guard := none } : Oper)) (v := ?hv57) rfl (by kernel_rfl) (by kernel_rfl) (by kernel_rfl) (fun _ _ _ h => h) (Or.inl ⟨by rfl, ?hy57⟩) (by assumption) ?hr57
    case hy57 => (intro w hSw; (try dsimp only at hSw); go_simp; (try with_reducible rfl))
    try simp only [Act.put, List.setIfInBounds_toArray, List.set_cons_zero, List.set_cons_succ]
    refine wpAnyH_take (i := 4) (oi := ({ dst := some 15, op := Op.load 34 (Operand.tmp 3), type := 34, pos := "law.go:56", after := #[], guard := none } : Oper)) (v := .agg (cellsE e).toArray) rfl (by kernel_rfl) (by kernel_rfl) (by kernel_rfl) (fun _ _ _ h => h) (yieldsIf_load_mid (by rfl) 34 _ rfl w.heap.size 0 rfl (cellsE e) _ (fun w0 hw0 => (X4.out.below hw0).range) Try.underlying34 rfl size39) (by assumption) ?_
    try simp only [Act.put, List.setIfInBounds_toArray, List.set_cons_zero, List.set_cons_succ]
    refine wpAnyH_ready (rs := [2]) (by kernel_rfl) (by simp) ?_
    refine AllReadyH.cons (o := ({ dst := some 13, op := Op.call { callee := Callee.value (Operand.func 22), args := #[Operand.tmp 11, Operand.tmp 12], argTypes := #[44, 34] }, type := 44, pos := "law.go:56", after := #[{ on := 0, ground := Ground.data }, { on := 1, ground := Ground.data }], guard := none } : Oper)) rfl (fun KK hKK => ?_) AllReadyH.nil
    go_simp
    (with_reducible refine (C22.out _ RB0.out).mono ?_)
    rintro e0 y1 ⟨A1, c1, es1, rfl, hx, he, hb⟩
    have RB1 := Lib.hid (RB0.out.trans (hb.mono RB0.out.size))
    have G1 := Lib.hid hx; have E1 := Lib.hid he
    clear hb
    refine hKK.out _ _ (RB1.out) (fun hH1 => ?_)
    clear hKK KK
    try simp only [Act.put, List.setIfInBounds_toArray, List.set_cons_zero, List.set_cons_succ]
    refine wpAnyH_ready (rs := [5]) (by kernel_rfl) (by simp) ?_
    refine AllReadyH.cons (o := ({ dst := some 16, op := Op.call { callee := Callee.value (Operand.func 23), args := #[Operand.tmp 14, Operand.tmp 15], argTypes := #[44, 34] }, type := 44, pos := "law.go:56", after := #[{ on := 3, ground := Ground.data }, { on := 4, ground := Ground.data }, { on := 2, ground := Ground.chain }], guard := none } : Oper)) rfl (fun KK hKK => ?_) AllReadyH.nil
    go_simp
    (with_reducible refine (C23.out _ RB1.out).mono ?_)
    rintro e0 y2 ⟨A2, c2, es2, rfl, hx, he, hb⟩
    have RB2 := Lib.hid (RB1.out.trans (hb.mono RB1.out.size))
    have G1 := Lib.hid (G1.out.below hb)
    have G2 := Lib.hid hx; have E2 := Lib.hid he
    clear hb
    refine hKK.out _ _ (RB2.out) (fun hH2 => ?_)
    clear hKK KK
    try simp only [Act.put, List.setIfInBounds_toArray, List.set_cons_zero, List.set_cons_succ]
    refine wpAnyH_ready (rs := [6]) (by kernel_rfl) (by simp) ?_
    refine AllReadyH.cons (o := ({ dst := some 17, op := Op.call { callee := Callee.value (Operand.func 21), args := #[Operand.tmp 13, Operand.tmp 16], argTypes := #[44, 44] }, type := 4, pos := "law.go:56", after := #[{ on := 2, ground := Ground.data }, { on := 5, ground := Ground.data }, { on := 5, ground := Ground.chain }], guard := none } : Oper)) rfl (fun KK hKK => ?_) AllReadyH.nil
    go_simp
    (with_reducible refine (sameAll21 _ _ ds.length _ _ _ _ _ G1.out G2.out (dat_at (E1.out.trans E2.out.symm) (len_map E1.out)) (few_at HFw.out E1.out)).mono ?_)
    rintro e0 y3 ⟨rfl, hb⟩
    have RB3 := Lib.hid (RB2.out.trans (hb.mono RB2.out.size))
    have G1 := Lib.hid (G1.out.below hb)
    have G2 := Lib.hid (G2.out.below hb)
    clear hb
    refine hKK.out _ _ (RB3.out) (fun hH3 => ?_)
    clear hKK KK
    try simp only [Act.put, List.setIfInBounds_toArray, List.set_cons_zero, List.set_cons_succ]
    refine wpAnyH_take (i := 7) (oi := ({ dst := some 18, op := Op.move (Operand.tmp 17), type := 4, pos := "law.go:56", after := #[{ on := 6, ground := Ground.data }, { on := 6, ground := Ground.chain }], guard := none } : Oper)) (v := ?hv58) rfl (by kernel_rfl) (by kernel_rfl) (by kernel_rfl) (fun _ _ _ h => h) (Or.inl ⟨by rfl, ?hy58⟩) (by assumption) ?hr58
    case hy58 => (intro w hSw; (try dsimp only at hSw); go_simp; (try with_reducible rfl))
    try simp only [Act.put, List.setIfInBounds_toArray, List.set_cons_zero, List.set_cons_succ]
    refine wpAnyH_ready (rs := [8]) (by kernel_rfl) (by simp) ?_
    refine AllReadyH.cons (o := ({ dst := some 19, op := Op.call { callee := Callee.value (Operand.func 14), args := #[], argTypes := #[] }, type := 4, pos := "law.go:56", after := #[{ on := 7, ground := Ground.chain }, { on := 7, ground := Ground.guard }], guard := some (7, true) } : Oper)) rfl (fun KK hKK => ?_) AllReadyH.nil
    go_simp
    (with_reducible refine (live14 _).mono ?_)
    rintro e0 y4 ⟨rfl, hb⟩
    have RB4 := Lib.hid (RB3.out.trans (hb.mono RB3.out.size))
    have G1 := Lib.hid (G1.out.below hb)
    have G2 := Lib.hid (G2.out.below hb)
    clear hb
    refine hKK.out _ _ (RB4.out) (fun hH4 => ?_)
    clear hKK KK
    try simp only [Act.put, List.setIfInBounds_toArray, List.set_cons_zero, List.set_cons_succ]
    refine wpAnyH_take (i := 9) (oi := ({ dst := some 20, op := Op.pick (Operand.tmp 18) (Operand.tmp 19) (Operand.const (Value.bool false)), type := 4, pos := "law.go:56", after := #[{ on := 7, ground := Ground.data }, { on := 8, ground := Ground.data }], guard := none } : Oper)) (v := ?hv59) rfl (by kernel_rfl) (by kernel_rfl) (by kernel_rfl) (fun _ _ _ h => h) (Or.inl ⟨by rfl, ?hy59⟩) (by assumption) ?hr59
    case hy59 => (intro w hSw; (try dsimp only at hSw); go_simp; (try with_reducible rfl))
    try simp only [Act.put, List.setIfInBounds_toArray, List.set_cons_zero, List.set_cons_succ]
    refine wpAnyH_take (i := 10) (oi := ({ dst := some 4, op := Op.assign (Operand.tmp 20), type := 4, pos := "law.go:56", after := #[{ on := 9, ground := Ground.data }, { on := 8, ground := Ground.chain }, { on := 0, ground := Ground.phase }, { on := 1, ground := Ground.phase }, { on := 2, ground := Ground.phase }, { on := 3, ground := Ground.phase }, { on := 4, ground := Ground.phase }, { on := 5, ground := Ground.phase }, { on := 6, ground := Ground.phase }, { on := 7, ground := Ground.phase }, { on := 8, ground := Ground.phase }, { on := 9, ground := Ground.phase }], guard := none } : Oper)) (v := ?hv60) rfl (by kernel_rfl) (by kernel_rfl) (by kernel_rfl) (fun _ _ _ h => h) (Or.inl ⟨by rfl, ?hy60⟩) (by assumption) ?hr60
    case hy60 => (intro w hSw; (try dsimp only at hSw); go_simp; (try with_reducible rfl))
    try simp only [Act.put, List.setIfInBounds_toArray, List.set_cons_zero, List.set_cons_succ]
    refine wpAnyH_done (by kernel_rfl) ?_ _
    go_wp2
    go_ret
    exact ⟨rfl, B4.out.trans (RB4.out.mono B4.out.size)⟩
  · go_wp2
    go_ret
    exact ⟨rfl, B4.out⟩
  · go_wp2
    go_ret
    exact ⟨rfl, B3.out⟩
end Go.Proofs.Ytbedibiodlgegaa

namespace Go.Proofs.Ytbedibiodlgegaa
open Go Go.RowKit
set_option linter.unusedVariables false
set_option linter.unusedSimpArgs false

theorem fits_ok {E : Nat → Evd} {n : Nat} {e : Evd} (h : fitsE E n e = 0) : allIn E n e = true ∧ noBad (keysE e) ((paE E n e).map kyE) = true := by
  unfold fitsE at h
  by_cases h1 : allIn E n e = false
  · rw [if_pos h1] at h; exact absurd h (by decide)
  rw [if_neg h1] at h
  by_cases h2 : sameRm E n e = false
  · rw [if_pos h2] at h; exact absurd h (by decide)
  rw [if_neg h2] at h
  by_cases h3 : noBad (keysE e) ((paE E n e).map kyE) = false
  · rw [if_pos h3] at h; exact absurd h (by decide)
  exact ⟨by simpa using h1, by simpa using h3⟩
def kzO (E : Nat → Evd) (n : Nat) (z : Int) : Ky.Rc := kyE (E (plN E n z))
theorem pa_map (E : Nat → Evd) (n : Nat) (e : Evd) : (paE E n e).map kyE = e.p9.map (kzO E n) := by unfold paE; rw [List.map_map]; rfl
theorem nobad_in {kl ps : List Ky.Rc} (h : noBad kl ps = true) : ∀ p ∈ ps, p ∈ kl := fun p hp => by
  obtain ⟨j, hj, rfl⟩ := List.getElem_of_mem hp
  unfold noBad at h
  rw [List.all_eq_true] at h
  have h1 := h j (by simpa using hj)
  unfold badK at h1
  rw [Ky.getD_at hj] at h1
  simp only [Bool.not_or, Bool.not_not, Bool.and_eq_true] at h1
  obtain ⟨q, hq, he⟩ := List.any_eq_true.1 h1.1
  have : ps[j] = q := of_decide_eq_true he
  rw [this]; exact hq
theorem nobad_nodup {kl ps : List Ky.Rc} (h : noBad kl ps = true) : ps.Nodup := by
  rw [List.nodup_iff_pairwise_ne, List.pairwise_iff_getElem]
  intro i j hi hj hij he
  unfold noBad at h
  rw [List.all_eq_true] at h
  have h1 := h j (by simpa using hj)
  unfold badK at h1
  rw [Ky.getD_at hj] at h1
  simp only [Bool.not_or, Bool.not_not, Bool.and_eq_true] at h1
  have h2 : (ps.take j).any (isEq ps[j]) = true := by
    rw [List.any_eq_true]
    refine ⟨ps[i], ?_, decide_eq_true he.symm⟩
    rw [List.mem_take_iff_getElem]
    exact ⟨i, by omega, rfl⟩
  rw [h2] at h1
  exact absurd h1.2 (by decide)
theorem pl_id {E : Nat → Evd} {z : Int} {k : Nat} : ∀ {n : Nat}, pl E n z = some k → (E k).e0 = z := by
  intro n
  induction n with
  | zero => intro h; cases h
  | succ n ih =>
    intro h
    rw [pl_succ] at h
    cases e : pl E n z with
    | some j => rw [e] at h; cases h; exact ih e
    | none =>
      rw [e] at h
      simp only [Option.none_or] at h
      split at h
      · cases h; assumption
      · cases h
/-- What the first hit is. -/
theorem first_spec {E : Nat → Evd} {n : Nat} {ps : List Int} {q : Ky.Rc} {k : Nat} (h : firstK E n ps q = some k) : ∃ z, z ∈ ps ∧ pl E n z = some k ∧ kyE (E k) = q := by
  unfold firstK at h
  obtain ⟨z, hz, hh⟩ := List.exists_of_findSome?_eq_some h
  refine ⟨z, hz, ?_⟩
  unfold hit at hh
  cases hp : pl E n z with
  | none => rw [hp] at hh; cases hh
  | some j =>
    rw [hp] at hh
    have hh' : (if isEq (kyE (E j)) q then some j else none) = some k := hh
    split at hh'
    · rename_i hq
      cases hh'
      exact ⟨rfl, of_decide_eq_true hq⟩
    · cases hh'
theorem first_some {E : Nat → Evd} {n : Nat} {ps : List Int} {z : Int} {k : Nat} (hz : z ∈ ps) (h : pl E n z = some k) : ∃ j, firstK E n ps (kyE (E k)) = some j := by
  cases hf : firstK E n ps (kyE (E k)) with
  | some j => exact ⟨j, rfl⟩
  | none =>
    unfold firstK at hf
    rw [List.findSome?_eq_none_iff] at hf
    have := hf z hz
    rw [hit_some h rfl] at this
    cases this
theorem from_keys (E : Nat → Evd) (n : Nat) (ps : List Int) : ∀ kl : List Ky.Rc, (fromK E n ps kl).map kyE = kl.filter (fun q => (firstK E n ps q).isSome)
  | [] => rfl
  | q :: r => by
    have ih := from_keys E n ps r
    unfold fromK at ih ⊢
    rw [List.filterMap_cons, List.filter_cons]
    cases hf : firstK E n ps q with
    | none => exact ih
    | some k =>
      show (dat (E k) :: _).map kyE = q :: _
      rw [List.map_cons, show kyE (dat (E k)) = q from (first_spec hf).choose_spec.2.2, ih]
theorem from_nodup (E : Nat → Evd) (n : Nat) (e : Evd) : ((fromD E n e).map kyE).Nodup := by
  unfold fromD
  rw [from_keys]
  exact (Ky.srt_nodup (Ky.keysL_srt _ _ _ _)).sublist List.filter_sublist
theorem inj_nodup {α β : Type} {l : List α} {f : α → β} (h : (l.map f).Nodup) {a b : α} (ha : a ∈ l) (hb : b ∈ l) (e : f a = f b) : a = b := by
  obtain ⟨i, hi, rfl⟩ := List.getElem_of_mem ha
  obtain ⟨j, hj, rfl⟩ := List.getElem_of_mem hb
  rw [List.nodup_iff_pairwise_ne, List.pairwise_iff_getElem] at h
  rcases Nat.lt_trichotomy i j with hij | hij | hij
  · exact absurd (by rw [List.getElem_map, List.getElem_map]; exact e) (h i j (by rw [List.length_map]; exact hi) (by rw [List.length_map]; exact hj) hij)
  · subst hij; rfl
  · exact absurd (by rw [List.getElem_map, List.getElem_map]; exact e.symm) (h j i (by rw [List.length_map]; exact hj) (by rw [List.length_map]; exact hi) hij)
theorem whole_plain {E : Nat → Evd} {n : Nat} {e : Evd} (h : fitsE E n e = 0) : (fromD E n e).length = e.p9.length ∧ (∀ z, z ∈ (fromD E n e).map (fun d => d.e0) ↔ z ∈ e.p9) := by
  obtain ⟨h0, hb⟩ := fits_ok h
  rw [pa_map] at hb
  have hin := nobad_in hb
  have hnd := nobad_nodup hb
  have hsome : ∀ z, z ∈ e.p9 → ∃ k, pl E n z = some k ∧ kzO E n z = kyE (E k) := fun z hz => by
    unfold allIn at h0
    rw [List.all_eq_true] at h0
    obtain ⟨k, hk⟩ := Option.isSome_iff_exists.1 (h0 z hz)
    exact ⟨k, hk, by unfold kzO plN; rw [hk]; rfl⟩
  constructor
  · have hp : ((fromD E n e).map kyE).Perm (e.p9.map (kzO E n)) := by
      refine (List.perm_ext_iff_of_nodup (from_nodup E n e) hnd).2 fun q => ?_
      unfold fromD
      rw [from_keys, List.mem_filter]
      constructor
      · rintro ⟨hq, hs⟩
        obtain ⟨k, hk⟩ := Option.isSome_iff_exists.1 hs
        obtain ⟨z, hz, hp, hq'⟩ := first_spec hk
        refine List.mem_map.2 ⟨z, hz, ?_⟩
        unfold kzO plN; rw [hp]; exact hq'
      · intro hq
        refine ⟨hin q hq, ?_⟩
        obtain ⟨z, hz, rfl⟩ := List.mem_map.1 hq
        obtain ⟨k, hk, hkk⟩ := hsome z hz
        rw [hkk]
        obtain ⟨j, hj⟩ := first_some hz hk
        rw [hj]; rfl
    have := hp.length_eq
    rwa [List.length_map, List.length_map] at this
  · intro z
    rw [List.mem_map]
    constructor
    · rintro ⟨d, hd, rfl⟩
      unfold fromD fromK at hd
      obtain ⟨q, _, hq⟩ := List.mem_filterMap.1 hd
      cases hf : firstK E n e.p9 q with
      | none => rw [hf] at hq; cases hq
      | some k =>
        rw [hf] at hq
        have hdd : dat (E k) = d := Option.some.inj hq
        obtain ⟨z, hz, hp, _⟩ := first_spec hf
        rw [← hdd, show (dat (E k)).e0 = (E k).e0 from rfl, pl_id hp]
        exact hz
    · intro hz
      obtain ⟨k, hk, hkk⟩ := hsome z hz
      obtain ⟨j, hj⟩ := first_some hz hk
      obtain ⟨z', hz', hp', hq'⟩ := first_spec hj
      have hzz : z' = z := by
        refine inj_nodup hnd hz' hz ?_
        rw [hkk]
        unfold kzO plN; rw [hp']; exact hq'
      subst hzz
      refine ⟨dat (E j), ?_, ?_⟩
      · unfold fromD fromK
        exact List.mem_filterMap.2 ⟨kyE (E k), hin _ (by rw [← hkk]; exact List.mem_map.2 ⟨z', hz, rfl⟩), by rw [hj]; rfl⟩
      · exact pl_id hp'
def idsO (n : Nat) (E : Nat → Evd) : List Int := (List.range n).map fun j => (E j).e0
theorem idsO_succ (n : Nat) (E : Nat → Evd) : idsO (n + 1) E = idsO n E ++ [(E n).e0] := by unfold idsO; rw [List.range_succ, List.map_append]; rfl
theorem idsO_len (n : Nat) (E : Nat → Evd) : (idsO n E).length = n := by unfold idsO; rw [List.length_map, List.length_range]
theorem idsO_es {es ds : List Evd} (h : es.map dat = ds) : idsO ds.length (fun j => es.getD j ev0) = ds.map (fun d => d.e0) := by
  have hl := len_map h
  unfold idsO
  refine List.ext_getElem (by rw [List.length_map, List.length_range, List.length_map]) fun i h0 h2 => ?_
  have h1 : i < ds.length := by simpa using h0
  rw [List.getElem_map, List.getElem_map, List.getElem_range]
  show (es.getD i ev0).e0 = _
  rw [List.getD_eq_getElem?_getD, List.getElem?_eq_getElem (by omega)]
  have h3 : (es.map dat)[i]? = some ds[i] := by rw [h]; exact List.getElem?_eq_getElem h1
  rw [List.getElem?_map, List.getElem?_eq_getElem (by omega)] at h3
  have h4 : dat es[i] = ds[i] := Option.some.inj h3
  rw [← h4]; rfl
set_option maxHeartbeats 4000000 in
theorem ids26 (A : Option Addr) (n c : Nat) (E : Nat → Evd) (w : World) (h : Evx w A n E) (hn : n ≤ 1000000) : Calls Try.prog 26 #[.slice A n c] w (IntP w (idsO n E)) := by
  have H := Lib.hid h
  have hbig := h.big
  clear h
  obtain ⟨i0, hi, hz0, hz1, hz2⟩ := info_parts info3
  have HI := Lib.hid (And.intro hi (And.intro hz0 (And.intro hz1 hz2)))
  clear hi hz0 hz1 hz2
  have O0 : Hid (w.ownsRow w.heap.size 3 1 (.slice none 0 0) 0 ((idsO 0 E).map (Value.int .i64))) := Lib.hid (World.ownsRow_nil w _ _ _)
  go_enter Try.func26, Try.ntmps26
  go_wp2
  go_loopg [3, 4] n (fun gg s3 s4 wr => ∃ (kk : Nat) (v : Value), kk ≤ n ∧ n - kk ≤ gg ∧ v = s3 ∧ s4 = .int .i64 kk ∧ Hid (wr.ownsRow w.heap.size 3 1 v kk ((idsO kk E).map (Value.int .i64))) ∧ Hid (Below w.heap.size w wr))
  case atStart => exact ⟨0, _, Nat.zero_le _, by omega, rfl, rfl, O0, Lib.hid (Below.refl _ _)⟩
  case round =>
    obtain ⟨kk, v, hkk, hg, rfl, rfl, HO, BW⟩ := hrel
    by_cases hlt : kk < n
    · have hltz : (kk : Int) < (n : Int) := by omega
      have hk0 : (0 : Int) ≤ (kk : Int) := by omega
      obtain ⟨b, off, rfl, k0⟩ := (H.out.below BW.out).id hlt
      have HS := Lib.hid (idsO_succ kk E)
      generalize (E kk).e0 = z at k0 HS
      go_wp2_with (first
        | (at_builtin; refine wpList_append_any _ rfl _ _ 23 rfl w.heap.size 3 i0 _ 1 8 Try.underlying23 HI.out.1 HI.out.2.1 HI.out.2.2.1 HI.out.2.2.2 rfl (by decide) v kk ((idsO kk E).map (Value.int .i64)) rfl (HO.out.alloc _) _ 1 1 [.int .i64 z] rfl (int_src2 _ z) (by unfold maxLen; omega) (by omega) (BW.out.alloc BW.out.size _).size ?_; intro v4 w4 hgr; have B4 := Lib.hid (hgr.below (BW.out.alloc BW.out.size _) (HO.out.alloc _)); have O4 := Lib.hid hgr.own; clear hgr)
        | go_in)
      go_roundg (n - (kk + 1))
      case measure => omega
      case rel => exact ⟨kk + 1, v4, by omega, by omega, rfl, by go_num, Lib.hid (by rw [HS.out, List.map_append]; exact O4.out), B4⟩
    · have hltz : ¬ (kk : Int) < (n : Int) := by omega
      have HKn := Lib.hid (show kk = n by omega)
      obtain ⟨A4, c4, hv4, _⟩ := Q.own_slice HO.out
      subst hv4
      go_wp2
      go_ret
      rw [HKn.out] at HO
      exact ⟨A4, c4, by first | (rw [idsO_len]; rfl) | (rw [idsO_len, HKn.out]; rfl), by rw [idsO_len]; exact Q.own_ints HO.out hn, BW.out⟩
end Go.Proofs.Ytbedibiodlgegaa

namespace Go.Proofs.Ytbedibiodlgegaa
open Go Go.RowKit
set_option linter.unusedVariables false
set_option linter.unusedSimpArgs false

theorem sameR (A1 A2 : Option Addr) (n c1 c2 : Nat) (l : List Int) (w : World) (h1 : Q.Ints w A1 n c1 l) (h2 : Q.Ints w A2 n c2 l) : Calls Try.prog 15 #[.slice A1 n c1, .slice A2 n c2] w fun e w' => e = .returned (.bool true) ∧ Below w.heap.size w w' :=
  (Q.same_any A1 n c1 l A2 n c2 l w h1 h2).mono fun e w' h => ⟨by rw [h.1, decide_eq_true rfl], h.2⟩
theorem fe9 {e : Evd} (h : Fe e) : e.n9 ≤ 40 := h.2.1
theorem es_ne {es : List Evd} (h : (es.map kyE).Nodup) {i k : Nat} (hk : k < i) (hi : i < es.length) : ¬ ((es.getD i ev0).e3 = (es.getD k ev0).e3 ∧ (es.getD i ev0).e5.toList = (es.getD k ev0).e5.toList) := by
  rintro ⟨h1, h2⟩
  rw [List.nodup_iff_pairwise_ne, List.pairwise_iff_getElem] at h
  refine h k i (by rw [List.length_map]; omega) (by rw [List.length_map]; omega) hk ?_
  rw [List.getElem_map, List.getElem_map]
  rw [List.getD_eq_getElem?_getD, List.getElem?_eq_getElem hi, List.getD_eq_getElem?_getD, List.getElem?_eq_getElem (by omega)] at h1 h2
  exact (Ky.eq_iff3 _ _).2 ⟨h1.symm, h2.symm, rfl⟩
theorem es_kyE {es ds : List Evd} (h : es.map dat = ds) : es.map kyE = ds.map kyE := by rw [← h, List.map_map]; rfl
set_option maxRecDepth 100000 in
set_option maxHeartbeats 16000000 in
theorem whole_walk (A : Option Addr) (n c : Nat) (E : Nat → Evd) (e : Evd) (w : World) (h0 : Evx w A n E) (hc : IsCt w e.C e.a) (h : Wfe e) (p8 : Its w e.a8 e.n8 e.c8 e.p8) (p9 : Its w e.a9 e.n9 e.c9 e.p9) : Calls Try.prog 8 #[.slice A n c, .agg (cellsE e).toArray] w fun r w' => r = .returned (.bool true) ∧ Below w.heap.size w w' := by
  show Calls Try.prog 8 #[.slice A n c, .agg #[.int .i64 e.e0, .string e.e1, .string e.e2, .int .i64 e.e3, .bool e.e4, .string e.e5, .int .i64 e.e6, .int .i64 e.e7, .slice e.a8 e.n8 e.c8, .slice e.a9 e.n9 e.c9, .string e.C.tx, .int .i64 e.C.n, .int .i64 e.C.tg, .bool e.C.th, .string e.C.via, .slice e.a.aA e.C.nA e.a.aC, .slice e.a.dA e.C.nD e.a.dC, .slice e.a.uA e.C.lv.nU e.a.uC, .slice e.a.kA e.C.lv.nK e.a.kC, .int .i64 e.C.lv.d, .int .i64 e.C.lv.x3, .int .i64 e.C.lv.x4, .int .i64 e.C.lv.x5, .int .i64 e.C.lv.x6, .int .i64 e.C.lv.x7, .int .i64 e.C.lv.x8, .int .i64 e.e26, .string e.e27, .int .i64 e.e28]] w _
  have BA := Lib.hid ((Below.refl w.heap.size w).alloc (Nat.le_refl _) (.cells #[.int .i64 e.e0, .string e.e1, .string e.e2, .int .i64 e.e3, .bool e.e4, .string e.e5, .int .i64 e.e6, .int .i64 e.e7, .slice e.a8 e.n8 e.c8, .slice e.a9 e.n9 e.c9, .string e.C.tx, .int .i64 e.C.n, .int .i64 e.C.tg, .bool e.C.th, .string e.C.via, .slice e.a.aA e.C.nA e.a.aC, .slice e.a.dA e.C.nD e.a.dC, .slice e.a.uA e.C.lv.nU e.a.uC, .slice e.a.kA e.C.lv.nK e.a.kC, .int .i64 e.C.lv.d, .int .i64 e.C.lv.x3, .int .i64 e.C.lv.x4, .int .i64 e.C.lv.x5, .int .i64 e.C.lv.x6, .int .i64 e.C.lv.x7, .int .i64 e.C.lv.x8, .int .i64 e.e26, .string e.e27, .int .i64 e.e28] 34))
  have XA : Hid (Blk (w.alloc (.cells #[.int .i64 e.e0, .string e.e1, .string e.e2, .int .i64 e.e3, .bool e.e4, .string e.e5, .int .i64 e.e6, .int .i64 e.e7, .slice e.a8 e.n8 e.c8, .slice e.a9 e.n9 e.c9, .string e.C.tx, .int .i64 e.C.n, .int .i64 e.C.tg, .bool e.C.th, .string e.C.via, .slice e.a.aA e.C.nA e.a.aC, .slice e.a.dA e.C.nD e.a.dC, .slice e.a.uA e.C.lv.nU e.a.uC, .slice e.a.kA e.C.lv.nK e.a.kC, .int .i64 e.C.lv.d, .int .i64 e.C.lv.x3, .int .i64 e.C.lv.x4, .int .i64 e.C.lv.x5, .int .i64 e.C.lv.x6, .int .i64 e.C.lv.x7, .int .i64 e.C.lv.x8, .int .i64 e.e26, .string e.e27, .int .i64 e.e28] 34)) w.heap.size (cellsE e) 34) := Lib.hid (blk_new w (cellsE e) 34)
  have H := Lib.hid (h0.below BA.out)
  have HGr := Lib.hid (great13 A n c 14 E _ H.out)
  have HLo := Lib.hid (fun u (hb : Below w.heap.size w u) => long19e e u (hc.below hb) h)
  have HWf := Lib.hid h
  have H9 := Lib.hid (p9.below BA.out)
  clear h0 hc h p8 p9
  have C19 := Lib.hid (fun u (hb : Below (w.alloc (.cells #[.int .i64 e.e0, .string e.e1, .string e.e2, .int .i64 e.e3, .bool e.e4, .string e.e5, .int .i64 e.e6, .int .i64 e.e7, .slice e.a8 e.n8 e.c8, .slice e.a9 e.n9 e.c9, .string e.C.tx, .int .i64 e.C.n, .int .i64 e.C.tg, .bool e.C.th, .string e.C.via, .slice e.a.aA e.C.nA e.a.aC, .slice e.a.dA e.C.nD e.a.dC, .slice e.a.uA e.C.lv.nU e.a.uC, .slice e.a.kA e.C.lv.nK e.a.kC, .int .i64 e.C.lv.d, .int .i64 e.C.lv.x3, .int .i64 e.C.lv.x4, .int .i64 e.C.lv.x5, .int .i64 e.C.lv.x6, .int .i64 e.C.lv.x7, .int .i64 e.C.lv.x8, .int .i64 e.e26, .string e.e27, .int .i64 e.e28] 34)).heap.size (w.alloc (.cells #[.int .i64 e.e0, .string e.e1, .string e.e2, .int .i64 e.e3, .bool e.e4, .string e.e5, .int .i64 e.e6, .int .i64 e.e7, .slice e.a8 e.n8 e.c8, .slice e.a9 e.n9 e.c9, .string e.C.tx, .int .i64 e.C.n, .int .i64 e.C.tg, .bool e.C.th, .string e.C.via, .slice e.a.aA e.C.nA e.a.aC, .slice e.a.dA e.C.nD e.a.dC, .slice e.a.uA e.C.lv.nU e.a.uC, .slice e.a.kA e.C.lv.nK e.a.kC, .int .i64 e.C.lv.d, .int .i64 e.C.lv.x3, .int .i64 e.C.lv.x4, .int .i64 e.C.lv.x5, .int .i64 e.C.lv.x6, .int .i64 e.C.lv.x7, .int .i64 e.C.lv.x8, .int .i64 e.e26, .string e.e27, .int .i64 e.e28] 34)) u) (h9 : e.n9 ≤ 1000000) => fits19 A n c E e u (H.out.below hb) HWf.out (H9.out.below hb) h9)
  have HP := Lib.hid (fun h => whole_plain (E := E) (n := n) (e := e) h)
  have HLp := Lib.hid H9.out.len
  go_enter Try.func8, Try.ntmps8
  by_cases hf : fitsE E n e = 0
  · rw [hf] at C19
    have HPl := Lib.hid (HP.out hf)
    clear HP hf
    go_upto_region 4 with (first
      | (go_at_call 18; (with_reducible refine HGr.out.mono ?_); rintro e1 w3 ⟨⟨q, rfl, hq⟩, hb⟩; have HQ := Lib.hid hq; have F3 := Lib.hid hb; have B3 := Lib.hid (BA.out.trans (hb.mono BA.out.size)); have R3 := Lib.hid (XA.out.below hb).range; clear hq hb; cases q)
      | (refine load_mid_g (by rfl) 34 _ rfl w.heap.size 0 rfl (cellsE e) _ R3.out Try.underlying34 rfl size39 ?_)
      | (go_at_call 10; (with_reducible refine (HLo.out _ B3.out).mono ?_); rintro e1 w4 ⟨⟨q, rfl, hq⟩, hb⟩; have HL := Lib.hid hq; have F4 := Lib.hid (F3.out.trans (hb.mono F3.out.size)); have R4 := Lib.hid (XA.out.below F4.out).range; have B4 := Lib.hid (B3.out.trans (hb.mono B3.out.size)); clear hq hb; cases q)
      | (refine load_mid_g (by rfl) 34 _ rfl w.heap.size 0 rfl (cellsE e) _ R4.out Try.underlying34 rfl size39 ?_)
      | (go_at_call 19; (with_reducible refine (C19.out _ F4.out (Nat.le_trans (fe9 (HL.out (by first | rfl | trivial))) (by omega))).mono ?_); rintro e1 w5 ⟨rfl, hb⟩; have F5 := Lib.hid (F4.out.trans (hb.mono F4.out.size)); have X5 := Lib.hid (XA.out.below F5.out); have R5 := Lib.hid X5.out.range; have B5 := Lib.hid (B4.out.trans (hb.mono B4.out.size)); clear hb)
      | (refine wpList_load_mid rfl 34 _ rfl w.heap.size 0 rfl (cellsE e) _ R5.out Try.underlying34 rfl size39 ?_)
      | (go_at_call 22; (with_reducible refine (from22 A n c E e _ (H.out.below F5.out) HWf.out (H9.out.below F5.out) (Nat.le_trans (fe9 (HL.out (by first | rfl | trivial))) (by omega)) (HQ.out (by first | rfl | trivial)).2).mono ?_); rintro e1 w6 ⟨A6, c6, es, rfl, hx, he, hb⟩; have G6 := Lib.hid hx; have HE6 := Lib.hid he; have F6 := Lib.hid (F5.out.trans (hb.mono F5.out.size)); have X6 := Lib.hid (X5.out.below hb); have B6 := Lib.hid (B5.out.trans (hb.mono B5.out.size)); clear hx he hb)
      | (go_at_call 14; (with_reducible refine (live14 _).mono ?_); rintro e1 w9 ⟨rfl, hb⟩; have B9 := Lib.hid (B5.out.trans (hb.mono B5.out.size)); clear hb)
      | (go_at_call 14; (with_reducible refine (live14 _).mono ?_); rintro e1 w9 ⟨rfl, hb⟩; have B9 := Lib.hid (B4.out.trans (hb.mono B4.out.size)); clear hb)
      | (go_at_call 14; (with_reducible refine (live14 _).mono ?_); rintro e1 w9 ⟨rfl, hb⟩; have B9 := Lib.hid (B3.out.trans (hb.mono B3.out.size)); clear hb)
      | fail)
    · have hn9 : e.n9 ≤ 40 := fe9 (HL.out (by first | rfl | trivial))
      have hds : (fromD E n e).length = e.n9 := HPl.out.1.trans HLp.out
      have HND := Lib.hid (show (es.map kyE).Nodup by rw [es_kyE HE6.out]; exact from_nodup E n e)
      have HEl := Lib.hid (show es.length = e.n9 by rw [len_map HE6.out]; exact hds)
      have HSt := Lib.hid (show Q.M.st (idsO e.n9 (fun j => es.getD j ev0)) = Q.M.st e.p9 by
        refine Q.M.st_congr fun z => ?_
        rw [← hds, idsO_es HE6.out]
        exact HPl.out.2 z)
      rw [hds] at G6 ⊢
      clear hds HPl HE6 HGr HLo HL HQ C19 R3 R4 R5 BA XA X5 B3 B4 B5 F3 F4 F5 HLp
      have HIl := Lib.hid (idsO_len e.n9 (fun j => es.getD j ev0))
      have C26 := Lib.hid (fun u (hb : Below w6.heap.size w6 u) => ids26 A6 e.n9 c6 (fun j => es.getD j ev0) u (G6.out.below hb) (by omega))
      have HS1 := Lib.hid (fun A c u (h : Q.Ints u A (idsO e.n9 (fun j => es.getD j ev0)).length c (idsO e.n9 (fun j => es.getD j ev0))) => Q.rsorted_any A _ c _ u h (by rw [HIl.out]; omega))
      have HS2 := Lib.hid (fun u (hb : Below w6.heap.size w6 u) => Q.rsorted_any e.a9 e.n9 e.c9 e.p9 u (its_ints (H9.out.below (F6.out.trans (hb.mono F6.out.size))) (by omega)) (by omega))
      rw [HSt.out] at HS1
      unfold IntP at C26
      unfold Q.IntsP at HS1 HS2
      generalize Q.M.st e.p9 = L at HS1 HS2
      generalize idsO e.n9 (fun j => es.getD j ev0) = L1 at C26 HS1
      clear HSt HIl H H9 HWf
      go_wp2
      go_loopg [6, 7] e.n9 (fun gg s6 _ wr => ∃ ii : Nat, ii ≤ e.n9 ∧ e.n9 - ii ≤ gg ∧ s6 = .int .i64 ii ∧ Hid (Below w6.heap.size w6 wr))
      case atStart => exact ⟨0, Nat.zero_le _, by omega, rfl, Lib.hid (Below.refl _ _)⟩
      case round =>
        obtain ⟨ii, hii, hg, rfl, BX0⟩ := hrel
        by_cases hlt : ii < e.n9
        · have hltz : (ii : Int) < (e.n9 : Int) := by omega
          have hi0 : (0 : Int) ≤ (ii : Int) := by omega
          go_wp2
          go_loopg [7] ii (fun gg s7 WQ => ∃ kk : Nat, kk ≤ ii ∧ ii - kk ≤ gg ∧ s7 = .int .i64 kk ∧ Hid (Below w6.heap.size w6 WQ))
          case atStart => exact ⟨0, Nat.zero_le _, by omega, rfl, BX0⟩
          case round =>
            obtain ⟨kk, hkk, hg2, rfl, BX⟩ := hrel
            by_cases hl2 : kk < ii
            · have hl2z : (kk : Int) < (ii : Int) := by omega
              have hk0 : (0 : Int) ≤ (kk : Int) := by omega
              have hkn : (kk : Int) < (e.n9 : Int) := by omega
              obtain ⟨b5, o5, rfl, _⟩ := G6.out.at_ (by omega)
              have HXi := Lib.hid (show ∀ u, Below wr.heap.size wr u → u.cell? ⟨b5, o5 + ii * 29 + 3, none⟩ = some (.int .i64 (es.getD ii ev0).e3) ∧ u.cell? ⟨b5, o5 + ii * 29 + 5, none⟩ = some (.string (es.getD ii ev0).e5) from fun u hb => ⟨((G6.out.below (BX.out.trans (hb.mono BX.out.size))).parts hlt).1.c3, ((G6.out.below (BX.out.trans (hb.mono BX.out.size))).parts hlt).1.c5⟩)
              have HXk := Lib.hid (show ∀ u, Below wr.heap.size wr u → u.cell? ⟨b5, o5 + kk * 29 + 3, none⟩ = some (.int .i64 (es.getD kk ev0).e3) ∧ u.cell? ⟨b5, o5 + kk * 29 + 5, none⟩ = some (.string (es.getD kk ev0).e5) from fun u hb => ⟨((G6.out.below (BX.out.trans (hb.mono BX.out.size))).parts (show kk < e.n9 by omega)).1.c3, ((G6.out.below (BX.out.trans (hb.mono BX.out.size))).parts (show kk < e.n9 by omega)).1.c5⟩)
              have hne := es_ne HND.out hl2 (by rw [HEl.out]; exact hlt)
              generalize es.getD ii ev0 = x at HXi hne
              generalize es.getD kk ev0 = y at HXk hne
              by_cases h3 : x.e3 = y.e3
              · have z1 : (x.e3 == y.e3) = true := beq_iff_eq.2 h3
                have z2 : (x.e5.toList == y.e5.toList) = false := beq_eq_false_iff_ne.2 (fun h => hne ⟨h3, h⟩)
                clear h3 hne
                go_upto_region 10 with (fail)
                refine wp_region_held_drew (S := (fun y => Below wr.heap.size wr y)) (by kernel_rfl) ((Below.refl wr.heap.size wr).drew) (fun hH0 => ?_)
                generalize hy0 : World.drew _ = y0 at hH0 ⊢
                have RB0 : Hid (Below wr.heap.size wr y0) := Lib.hid hH0
                clear hy0
                refine wpAnyH_take (i := 0) (oi := ({ dst := some 35, op := Op.move (Operand.tmp 5), type := 44, pos := "law.go:89", after := #[], guard := none } : Oper)) (v := ?hv50) rfl (by kernel_rfl) (by kernel_rfl) (by kernel_rfl) (fun _ _ _ h => h) (Or.inl ⟨by rfl, ?hy50⟩) (by assumption) ?hr50
                case hy50 => (intro w hSw; (try dsimp only at hSw); go_simp; (try with_reducible rfl))
                try simp only [Act.put, List.setIfInBounds_toArray, List.set_cons_zero, List.set_cons_succ]
                refine wpAnyH_take (i := 1) (oi := ({ dst := some 36, op := Op.move (Operand.tmp 6), type := 3, pos := "law.go:89", after := #[], guard := none } : Oper)) (v := ?hv51) rfl (by kernel_rfl) (by kernel_rfl) (by kernel_rfl) (fun _ _ _ h => h) (Or.inl ⟨by rfl, ?hy51⟩) (by assumption) ?hr51
                case hy51 => (intro w hSw; (try dsimp only at hSw); go_simp; (try with_reducible rfl))
                try simp only [Act.put, List.setIfInBounds_toArray, List.set_cons_zero, List.set_cons_succ]
                refine wpAnyH_take (i := 2) (oi := ({ dst := some 37, op := Op.indexAddr 44 (Operand.tmp 35) (Operand.tmp 36), type := 0, pos := "law.go:89", after := #[{ on := 0, ground := Ground.data }, { on := 1, ground := Ground.data }], guard := none } : Oper)) (v := ?hv52) rfl (by kernel_rfl) (by kernel_rfl) (by kernel_rfl) (fun _ _ _ h => h) (Or.inl ⟨by rfl, ?hy52⟩) (by assumption) ?hr52
                case hy52 => (intro w hSw; (try dsimp only at hSw); go_simp; (try with_reducible rfl))
                try simp only [Act.put, List.setIfInBounds_toArray, List.set_cons_zero, List.set_cons_succ]
                refine wpAnyH_take (i := 3) (oi := ({ dst := some 38, op := Op.fieldAddr 34 (Operand.tmp 37) 3, type := 0, pos := "law.go:89", after := #[{ on := 2, ground := Ground.data }], guard := none } : Oper)) (v := ?hv53) rfl (by kernel_rfl) (by kernel_rfl) (by kernel_rfl) (fun _ _ _ h => h) (Or.inl ⟨by rfl, ?hy53⟩) (by assumption) ?hr53
                case hy53 => (intro w hSw; (try dsimp only at hSw); go_simp; (try with_reducible rfl))
                try simp only [Act.put, List.setIfInBounds_toArray, List.set_cons_zero, List.set_cons_succ]
                refine wpAnyH_take (i := 4) (oi := ({ dst := some 39, op := Op.load 22 (Operand.tmp 38), type := 22, pos := "law.go:89", after := #[{ on := 3, ground := Ground.data }], guard := none } : Oper)) (v := .int .i64 x.e3) rfl (by kernel_rfl) (by kernel_rfl) (by kernel_rfl) (fun _ _ _ h => h) (Or.inl ⟨by rfl, fun w0 hw0 => by obtain ⟨q0, q1⟩ := HXi.out w0 hw0; go_simp⟩) (by assumption) ?_
                try simp only [Act.put, List.setIfInBounds_toArray, List.set_cons_zero, List.set_cons_succ]
                refine wpAnyH_take (i := 5) (oi := ({ dst := some 40, op := Op.move (Operand.tmp 5), type := 44, pos := "law.go:89", after := #[], guard := none } : Oper)) (v := ?hv54) rfl (by kernel_rfl) (by kernel_rfl) (by kernel_rfl) (fun _ _ _ h => h) (Or.inl ⟨by rfl, ?hy54⟩) (by assumption) ?hr54
                case hy54 => (intro w hSw; (try dsimp only at hSw); go_simp; (try with_reducible rfl))
                try simp only [Act.put, List.setIfInBounds_toArray, List.set_cons_zero, List.set_cons_succ]
                refine wpAnyH_take (i := 6) (oi := ({ dst := some 41, op := Op.move (Operand.tmp 7), type := 3, pos := "law.go:89", after := #[], guard := none } : Oper)) (v := ?hv55) rfl (by kernel_rfl) (by kernel_rfl) (by kernel_rfl) (fun _ _ _ h => h) (Or.inl ⟨by rfl, ?hy55⟩) (by assumption) ?hr55
                case hy55 => (intro w hSw; (try dsimp only at hSw); go_simp; (try with_reducible rfl))
                try simp only [Act.put, List.setIfInBounds_toArray, List.set_cons_zero, List.set_cons_succ]
                refine wpAnyH_take (i := 7) (oi := ({ dst := some 42, op := Op.indexAddr 44 (Operand.tmp 40) (Operand.tmp 41), type := 0, pos := "law.go:89", after := #[{ on := 5, ground := Ground.data }, { on := 6, ground := Ground.data }], guard := none } : Oper)) (v := ?hv56) rfl (by kernel_rfl) (by kernel_rfl) (by kernel_rfl) (fun _ _ _ h => h) (Or.inl ⟨by rfl, ?hy56⟩) (by assumption) ?hr56
                case hy56 => (intro w hSw; (try dsimp only at hSw); go_simp; (try with_reducible rfl))
                try simp only [Act.put, List.setIfInBounds_toArray, List.set_cons_zero, List.set_cons_succ]
                refine wpAnyH_take (i := 8) (oi := ({ dst := some 43, op := Op.fieldAddr 34 (Operand.tmp 42) 3, type := 0, pos := "law.go:89", after := #[{ on := 7, ground := Ground.data }], guard := none } : Oper)) (v := ?hv57) rfl (by kernel_rfl) (by kernel_rfl) (by kernel_rfl) (fun _ _ _ h => h) (Or.inl ⟨by rfl, ?hy57⟩) (by assumption) ?hr57
                case hy57 => (intro w hSw; (try dsimp only at hSw); go_simp; (try with_reducible rfl))
                try simp only [Act.put, List.setIfInBounds_toArray, List.set_cons_zero, List.set_cons_succ]
                refine wpAnyH_take (i := 9) (oi := ({ dst := some 44, op := Op.load 22 (Operand.tmp 43), type := 22, pos := "law.go:89", after := #[{ on := 8, ground := Ground.data }], guard := none } : Oper)) (v := .int .i64 y.e3) rfl (by kernel_rfl) (by kernel_rfl) (by kernel_rfl) (fun _ _ _ h => h) (Or.inl ⟨by rfl, fun w0 hw0 => by obtain ⟨q0, q1⟩ := HXk.out w0 hw0; go_simp⟩) (by assumption) ?_
                try simp only [Act.put, List.setIfInBounds_toArray, List.set_cons_zero, List.set_cons_succ]
                refine wpAnyH_take (i := 10) (oi := ({ dst := some 45, op := Op.binOp BinOp.eql 22 (Operand.tmp 39) (Operand.tmp 44) 22, type := 4, pos := "law.go:89", after := #[{ on := 4, ground := Ground.data }, { on := 9, ground := Ground.data }], guard := none } : Oper)) (v := ?hv58) rfl (by kernel_rfl) (by kernel_rfl) (by kernel_rfl) (fun _ _ _ h => h) (Or.inl ⟨by rfl, ?hy58⟩) (by assumption) ?hr58
                case hy58 => (intro w hSw; (try dsimp only at hSw); go_simp; (try with_reducible rfl))
                try simp only [Act.put, List.setIfInBounds_toArray, List.set_cons_zero, List.set_cons_succ]
                refine wpAnyH_take (i := 11) (oi := ({ dst := some 46, op := Op.move (Operand.tmp 45), type := 4, pos := "law.go:89", after := #[{ on := 10, ground := Ground.data }], guard := none } : Oper)) (v := ?hv59) rfl (by kernel_rfl) (by kernel_rfl) (by kernel_rfl) (fun _ _ _ h => h) (Or.inl ⟨by rfl, ?hy59⟩) (by assumption) ?hr59
                case hy59 => (intro w hSw; (try dsimp only at hSw); go_simp; (try with_reducible rfl))
                try simp only [Act.put, List.setIfInBounds_toArray, List.set_cons_zero, List.set_cons_succ]
                refine wpAnyH_take (i := 12) (oi := ({ dst := some 47, op := Op.move (Operand.tmp 5), type := 44, pos := "law.go:89", after := #[{ on := 11, ground := Ground.guard }], guard := some (11, true) } : Oper)) (v := ?hv60) rfl (by kernel_rfl) (by kernel_rfl) (by kernel_rfl) (fun _ _ _ h => h) (Or.inl ⟨by rfl, ?hy60⟩) (by assumption) ?hr60
                case hy60 => (intro w hSw; (try dsimp only at hSw); go_simp; (try with_reducible rfl))
                try simp only [Act.put, List.setIfInBounds_toArray, List.set_cons_zero, List.set_cons_succ]
                refine wpAnyH_take (i := 13) (oi := ({ dst := some 48, op := Op.move (Operand.tmp 6), type := 3, pos := "law.go:89", after := #[{ on := 11, ground := Ground.guard }], guard := some (11, true) } : Oper)) (v := ?hv61) rfl (by kernel_rfl) (by kernel_rfl) (by kernel_rfl) (fun _ _ _ h => h) (Or.inl ⟨by rfl, ?hy61⟩) (by assumption) ?hr61
                case hy61 => (intro w hSw; (try dsimp only at hSw); go_simp; (try with_reducible rfl))
                try simp only [Act.put, List.setIfInBounds_toArray, List.set_cons_zero, List.set_cons_succ]
                refine wpAnyH_take (i := 14) (oi := ({ dst := some 49, op := Op.indexAddr 44 (Operand.tmp 47) (Operand.tmp 48), type := 0, pos := "law.go:89", after := #[{ on := 12, ground := Ground.data }, { on := 13, ground := Ground.data }, { on := 11, ground := Ground.guard }], guard := some (11, true) } : Oper)) (v := ?hv62) rfl (by kernel_rfl) (by kernel_rfl) (by kernel_rfl) (fun _ _ _ h => h) (Or.inl ⟨by rfl, ?hy62⟩) (by assumption) ?hr62
                case hy62 => (intro w hSw; (try dsimp only at hSw); go_simp; (try with_reducible rfl))
                try simp only [Act.put, List.setIfInBounds_toArray, List.set_cons_zero, List.set_cons_succ]
                refine wpAnyH_take (i := 15) (oi := ({ dst := some 50, op := Op.fieldAddr 34 (Operand.tmp 49) 5, type := 0, pos := "law.go:89", after := #[{ on := 14, ground := Ground.data }, { on := 11, ground := Ground.guard }], guard := some (11, true) } : Oper)) (v := ?hv63) rfl (by kernel_rfl) (by kernel_rfl) (by kernel_rfl) (fun _ _ _ h => h) (Or.inl ⟨by rfl, ?hy63⟩) (by assumption) ?hr63
                case hy63 => (intro w hSw; (try dsimp only at hSw); go_simp; (try with_reducible rfl))
                try simp only [Act.put, List.setIfInBounds_toArray, List.set_cons_zero, List.set_cons_succ]
                refine wpAnyH_take (i := 16) (oi := ({ dst := some 51, op := Op.load 9 (Operand.tmp 50), type := 9, pos := "law.go:89", after := #[{ on := 15, ground := Ground.data }, { on := 11, ground := Ground.guard }], guard := some (11, true) } : Oper)) (v := .string x.e5) rfl (by kernel_rfl) (by kernel_rfl) (by kernel_rfl) (fun _ _ _ h => h) (Or.inl ⟨by rfl, fun w0 hw0 => by obtain ⟨q0, q1⟩ := HXi.out w0 hw0; go_simp⟩) (by assumption) ?_
                try simp only [Act.put, List.setIfInBounds_toArray, List.set_cons_zero, List.set_cons_succ]
                refine wpAnyH_take (i := 17) (oi := ({ dst := some 52, op := Op.move (Operand.tmp 5), type := 44, pos := "law.go:89", after := #[{ on := 11, ground := Ground.guard }], guard := some (11, true) } : Oper)) (v := ?hv64) rfl (by kernel_rfl) (by kernel_rfl) (by kernel_rfl) (fun _ _ _ h => h) (Or.inl ⟨by rfl, ?hy64⟩) (by assumption) ?hr64
                case hy64 => (intro w hSw; (try dsimp only at hSw); go_simp; (try with_reducible rfl))
                try simp only [Act.put, List.setIfInBounds_toArray, List.set_cons_zero, List.set_cons_succ]
                refine wpAnyH_take (i := 18) (oi := ({ dst := some 53, op := Op.move (Operand.tmp 7), type := 3, pos := "law.go:89", after := #[{ on := 11, ground := Ground.guard }], guard := some (11, true) } : Oper)) (v := ?hv65) rfl (by kernel_rfl) (by kernel_rfl) (by kernel_rfl) (fun _ _ _ h => h) (Or.inl ⟨by rfl, ?hy65⟩) (by assumption) ?hr65
                case hy65 => (intro w hSw; (try dsimp only at hSw); go_simp; (try with_reducible rfl))
                try simp only [Act.put, List.setIfInBounds_toArray, List.set_cons_zero, List.set_cons_succ]
                refine wpAnyH_take (i := 19) (oi := ({ dst := some 54, op := Op.indexAddr 44 (Operand.tmp 52) (Operand.tmp 53), type := 0, pos := "law.go:89", after := #[{ on := 17, ground := Ground.data }, { on := 18, ground := Ground.data }, { on := 11, ground := Ground.guard }], guard := some (11, true) } : Oper)) (v := ?hv66) rfl (by kernel_rfl) (by kernel_rfl) (by kernel_rfl) (fun _ _ _ h => h) (Or.inl ⟨by rfl, ?hy66⟩) (by assumption) ?hr66
                case hy66 => (intro w hSw; (try dsimp only at hSw); go_simp; (try with_reducible rfl))
                try simp only [Act.put, List.setIfInBounds_toArray, List.set_cons_zero, List.set_cons_succ]
                refine wpAnyH_take (i := 20) (oi := ({ dst := some 55, op := Op.fieldAddr 34 (Operand.tmp 54) 5, type := 0, pos := "law.go:89", after := #[{ on := 19, ground := Ground.data }, { on := 11, ground := Ground.guard }], guard := some (11, true) } : Oper)) (v := ?hv67) rfl (by kernel_rfl) (by kernel_rfl) (by kernel_rfl) (fun _ _ _ h => h) (Or.inl ⟨by rfl, ?hy67⟩) (by assumption) ?hr67
                case hy67 => (intro w hSw; (try dsimp only at hSw); go_simp; (try with_reducible rfl))
                try simp only [Act.put, List.setIfInBounds_toArray, List.set_cons_zero, List.set_cons_succ]
                refine wpAnyH_take (i := 21) (oi := ({ dst := some 56, op := Op.load 9 (Operand.tmp 55), type := 9, pos := "law.go:89", after := #[{ on := 20, ground := Ground.data }, { on := 11, ground := Ground.guard }], guard := some (11, true) } : Oper)) (v := .string y.e5) rfl (by kernel_rfl) (by kernel_rfl) (by kernel_rfl) (fun _ _ _ h => h) (Or.inl ⟨by rfl, fun w0 hw0 => by obtain ⟨q0, q1⟩ := HXk.out w0 hw0; go_simp⟩) (by assumption) ?_
                try simp only [Act.put, List.setIfInBounds_toArray, List.set_cons_zero, List.set_cons_succ]
                refine wpAnyH_take (i := 22) (oi := ({ dst := some 57, op := Op.binOp BinOp.eql 9 (Operand.tmp 51) (Operand.tmp 56) 9, type := 4, pos := "law.go:89", after := #[{ on := 16, ground := Ground.data }, { on := 21, ground := Ground.data }, { on := 11, ground := Ground.guard }], guard := some (11, true) } : Oper)) (v := ?hv68) rfl (by kernel_rfl) (by kernel_rfl) (by kernel_rfl) (fun _ _ _ h => h) (Or.inl ⟨by rfl, ?hy68⟩) (by assumption) ?hr68
                case hy68 => (intro w hSw; (try dsimp only at hSw); go_simp; (try with_reducible rfl))
                try simp only [Act.put, List.setIfInBounds_toArray, List.set_cons_zero, List.set_cons_succ]
                refine wpAnyH_take (i := 23) (oi := ({ dst := some 58, op := Op.pick (Operand.tmp 46) (Operand.tmp 57) (Operand.const (Value.bool false)), type := 4, pos := "law.go:89", after := #[{ on := 11, ground := Ground.data }, { on := 22, ground := Ground.data }], guard := none } : Oper)) (v := ?hv69) rfl (by kernel_rfl) (by kernel_rfl) (by kernel_rfl) (fun _ _ _ h => h) (Or.inl ⟨by rfl, ?hy69⟩) (by assumption) ?hr69
                case hy69 => (intro w hSw; (try dsimp only at hSw); go_simp; (try with_reducible rfl))
                try simp only [Act.put, List.setIfInBounds_toArray, List.set_cons_zero, List.set_cons_succ]
                refine wpAnyH_done (by kernel_rfl) ?_ _
                go_wp2
                go_roundg (ii - (kk + 1))
                case measure => omega
                case rel => exact ⟨kk + 1, by omega, by omega, by go_num, Lib.hid (BX.out.trans (RB0.out.mono BX.out.size))⟩
              · have z1 : (x.e3 == y.e3) = false := beq_eq_false_iff_ne.2 h3
                clear h3 hne
                go_upto_region 10 with (fail)
                refine wp_region_held_drew (S := (fun y => Below wr.heap.size wr y)) (by kernel_rfl) ((Below.refl wr.heap.size wr).drew) (fun hH0 => ?_)
                generalize hy0 : World.drew _ = y0 at hH0 ⊢
                have RB0 : Hid (Below wr.heap.size wr y0) := Lib.hid hH0
                clear hy0
                refine wpAnyH_take (i := 0) (oi := ({ dst := some 35, op := Op.move (Operand.tmp 5), type := 44, pos := "law.go:89", after := #[], guard := none } : Oper)) (v := ?hv70) rfl (by kernel_rfl) (by kernel_rfl) (by kernel_rfl) (fun _ _ _ h => h) (Or.inl ⟨by rfl, ?hy70⟩) (by assumption) ?hr70
                case hy70 => (intro w hSw; (try dsimp only at hSw); go_simp; (try with_reducible rfl))
                try simp only [Act.put, List.setIfInBounds_toArray, List.set_cons_zero, List.set_cons_succ]
                refine wpAnyH_take (i := 1) (oi := ({ dst := some 36, op := Op.move (Operand.tmp 6), type := 3, pos := "law.go:89", after := #[], guard := none } : Oper)) (v := ?hv71) rfl (by kernel_rfl) (by kernel_rfl) (by kernel_rfl) (fun _ _ _ h => h) (Or.inl ⟨by rfl, ?hy71⟩) (by assumption) ?hr71
                case hy71 => (intro w hSw; (try dsimp only at hSw); go_simp; (try with_reducible rfl))
                try simp only [Act.put, List.setIfInBounds_toArray, List.set_cons_zero, List.set_cons_succ]
                refine wpAnyH_take (i := 2) (oi := ({ dst := some 37, op := Op.indexAddr 44 (Operand.tmp 35) (Operand.tmp 36), type := 0, pos := "law.go:89", after := #[{ on := 0, ground := Ground.data }, { on := 1, ground := Ground.data }], guard := none } : Oper)) (v := ?hv72) rfl (by kernel_rfl) (by kernel_rfl) (by kernel_rfl) (fun _ _ _ h => h) (Or.inl ⟨by rfl, ?hy72⟩) (by assumption) ?hr72
                case hy72 => (intro w hSw; (try dsimp only at hSw); go_simp; (try with_reducible rfl))
                try simp only [Act.put, List.setIfInBounds_toArray, List.set_cons_zero, List.set_cons_succ]
                refine wpAnyH_take (i := 3) (oi := ({ dst := some 38, op := Op.fieldAddr 34 (Operand.tmp 37) 3, type := 0, pos := "law.go:89", after := #[{ on := 2, ground := Ground.data }], guard := none } : Oper)) (v := ?hv73) rfl (by kernel_rfl) (by kernel_rfl) (by kernel_rfl) (fun _ _ _ h => h) (Or.inl ⟨by rfl, ?hy73⟩) (by assumption) ?hr73
                case hy73 => (intro w hSw; (try dsimp only at hSw); go_simp; (try with_reducible rfl))
                try simp only [Act.put, List.setIfInBounds_toArray, List.set_cons_zero, List.set_cons_succ]
                refine wpAnyH_take (i := 4) (oi := ({ dst := some 39, op := Op.load 22 (Operand.tmp 38), type := 22, pos := "law.go:89", after := #[{ on := 3, ground := Ground.data }], guard := none } : Oper)) (v := .int .i64 x.e3) rfl (by kernel_rfl) (by kernel_rfl) (by kernel_rfl) (fun _ _ _ h => h) (Or.inl ⟨by rfl, fun w0 hw0 => by obtain ⟨q0, q1⟩ := HXi.out w0 hw0; go_simp⟩) (by assumption) ?_
                try simp only [Act.put, List.setIfInBounds_toArray, List.set_cons_zero, List.set_cons_succ]
                refine wpAnyH_take (i := 5) (oi := ({ dst := some 40, op := Op.move (Operand.tmp 5), type := 44, pos := "law.go:89", after := #[], guard := none } : Oper)) (v := ?hv74) rfl (by kernel_rfl) (by kernel_rfl) (by kernel_rfl) (fun _ _ _ h => h) (Or.inl ⟨by rfl, ?hy74⟩) (by assumption) ?hr74
                case hy74 => (intro w hSw; (try dsimp only at hSw); go_simp; (try with_reducible rfl))
                try simp only [Act.put, List.setIfInBounds_toArray, List.set_cons_zero, List.set_cons_succ]
                refine wpAnyH_take (i := 6) (oi := ({ dst := some 41, op := Op.move (Operand.tmp 7), type := 3, pos := "law.go:89", after := #[], guard := none } : Oper)) (v := ?hv75) rfl (by kernel_rfl) (by kernel_rfl) (by kernel_rfl) (fun _ _ _ h => h) (Or.inl ⟨by rfl, ?hy75⟩) (by assumption) ?hr75
                case hy75 => (intro w hSw; (try dsimp only at hSw); go_simp; (try with_reducible rfl))
                try simp only [Act.put, List.setIfInBounds_toArray, List.set_cons_zero, List.set_cons_succ]
                refine wpAnyH_take (i := 7) (oi := ({ dst := some 42, op := Op.indexAddr 44 (Operand.tmp 40) (Operand.tmp 41), type := 0, pos := "law.go:89", after := #[{ on := 5, ground := Ground.data }, { on := 6, ground := Ground.data }], guard := none } : Oper)) (v := ?hv76) rfl (by kernel_rfl) (by kernel_rfl) (by kernel_rfl) (fun _ _ _ h => h) (Or.inl ⟨by rfl, ?hy76⟩) (by assumption) ?hr76
                case hy76 => (intro w hSw; (try dsimp only at hSw); go_simp; (try with_reducible rfl))
                try simp only [Act.put, List.setIfInBounds_toArray, List.set_cons_zero, List.set_cons_succ]
                refine wpAnyH_take (i := 8) (oi := ({ dst := some 43, op := Op.fieldAddr 34 (Operand.tmp 42) 3, type := 0, pos := "law.go:89", after := #[{ on := 7, ground := Ground.data }], guard := none } : Oper)) (v := ?hv77) rfl (by kernel_rfl) (by kernel_rfl) (by kernel_rfl) (fun _ _ _ h => h) (Or.inl ⟨by rfl, ?hy77⟩) (by assumption) ?hr77
                case hy77 => (intro w hSw; (try dsimp only at hSw); go_simp; (try with_reducible rfl))
                try simp only [Act.put, List.setIfInBounds_toArray, List.set_cons_zero, List.set_cons_succ]
                refine wpAnyH_take (i := 9) (oi := ({ dst := some 44, op := Op.load 22 (Operand.tmp 43), type := 22, pos := "law.go:89", after := #[{ on := 8, ground := Ground.data }], guard := none } : Oper)) (v := .int .i64 y.e3) rfl (by kernel_rfl) (by kernel_rfl) (by kernel_rfl) (fun _ _ _ h => h) (Or.inl ⟨by rfl, fun w0 hw0 => by obtain ⟨q0, q1⟩ := HXk.out w0 hw0; go_simp⟩) (by assumption) ?_
                try simp only [Act.put, List.setIfInBounds_toArray, List.set_cons_zero, List.set_cons_succ]
                refine wpAnyH_take (i := 10) (oi := ({ dst := some 45, op := Op.binOp BinOp.eql 22 (Operand.tmp 39) (Operand.tmp 44) 22, type := 4, pos := "law.go:89", after := #[{ on := 4, ground := Ground.data }, { on := 9, ground := Ground.data }], guard := none } : Oper)) (v := ?hv78) rfl (by kernel_rfl) (by kernel_rfl) (by kernel_rfl) (fun _ _ _ h => h) (Or.inl ⟨by rfl, ?hy78⟩) (by assumption) ?hr78
                case hy78 => (intro w hSw; (try dsimp only at hSw); go_simp; (try with_reducible rfl))
                try simp only [Act.put, List.setIfInBounds_toArray, List.set_cons_zero, List.set_cons_succ]
                refine wpAnyH_take (i := 11) (oi := ({ dst := some 46, op := Op.move (Operand.tmp 45), type := 4, pos := "law.go:89", after := #[{ on := 10, ground := Ground.data }], guard := none } : Oper)) (v := ?hv79) rfl (by kernel_rfl) (by kernel_rfl) (by kernel_rfl) (fun _ _ _ h => h) (Or.inl ⟨by rfl, ?hy79⟩) (by assumption) ?hr79
                case hy79 => (intro w hSw; (try dsimp only at hSw); go_simp; (try with_reducible rfl))
                try simp only [Act.put, List.setIfInBounds_toArray, List.set_cons_zero, List.set_cons_succ]
                refine wpAnyH_take (i := 12) (oi := ({ dst := some 47, op := Op.move (Operand.tmp 5), type := 44, pos := "law.go:89", after := #[{ on := 11, ground := Ground.guard }], guard := some (11, true) } : Oper)) (v := undef) rfl (by kernel_rfl) (by kernel_rfl) (by kernel_rfl) (fun _ _ _ h => h) (Or.inr ⟨by rfl, rfl⟩) (by assumption) ?_
                try simp only [Act.put, List.setIfInBounds_toArray, List.set_cons_zero, List.set_cons_succ]
                refine wpAnyH_take (i := 13) (oi := ({ dst := some 48, op := Op.move (Operand.tmp 6), type := 3, pos := "law.go:89", after := #[{ on := 11, ground := Ground.guard }], guard := some (11, true) } : Oper)) (v := undef) rfl (by kernel_rfl) (by kernel_rfl) (by kernel_rfl) (fun _ _ _ h => h) (Or.inr ⟨by rfl, rfl⟩) (by assumption) ?_
                try simp only [Act.put, List.setIfInBounds_toArray, List.set_cons_zero, List.set_cons_succ]
                refine wpAnyH_take (i := 14) (oi := ({ dst := some 49, op := Op.indexAddr 44 (Operand.tmp 47) (Operand.tmp 48), type := 0, pos := "law.go:89", after := #[{ on := 12, ground := Ground.data }, { on := 13, ground := Ground.data }, { on := 11, ground := Ground.guard }], guard := some (11, true) } : Oper)) (v := undef) rfl (by kernel_rfl) (by kernel_rfl) (by kernel_rfl) (fun _ _ _ h => h) (Or.inr ⟨by rfl, rfl⟩) (by assumption) ?_
                try simp only [Act.put, List.setIfInBounds_toArray, List.set_cons_zero, List.set_cons_succ]
                refine wpAnyH_take (i := 15) (oi := ({ dst := some 50, op := Op.fieldAddr 34 (Operand.tmp 49) 5, type := 0, pos := "law.go:89", after := #[{ on := 14, ground := Ground.data }, { on := 11, ground := Ground.guard }], guard := some (11, true) } : Oper)) (v := undef) rfl (by kernel_rfl) (by kernel_rfl) (by kernel_rfl) (fun _ _ _ h => h) (Or.inr ⟨by rfl, rfl⟩) (by assumption) ?_
                try simp only [Act.put, List.setIfInBounds_toArray, List.set_cons_zero, List.set_cons_succ]
                refine wpAnyH_take (i := 16) (oi := ({ dst := some 51, op := Op.load 9 (Operand.tmp 50), type := 9, pos := "law.go:89", after := #[{ on := 15, ground := Ground.data }, { on := 11, ground := Ground.guard }], guard := some (11, true) } : Oper)) (v := undef) rfl (by kernel_rfl) (by kernel_rfl) (by kernel_rfl) (fun _ _ _ h => h) (Or.inr ⟨by rfl, rfl⟩) (by assumption) ?_
                try simp only [Act.put, List.setIfInBounds_toArray, List.set_cons_zero, List.set_cons_succ]
                refine wpAnyH_take (i := 17) (oi := ({ dst := some 52, op := Op.move (Operand.tmp 5), type := 44, pos := "law.go:89", after := #[{ on := 11, ground := Ground.guard }], guard := some (11, true) } : Oper)) (v := undef) rfl (by kernel_rfl) (by kernel_rfl) (by kernel_rfl) (fun _ _ _ h => h) (Or.inr ⟨by rfl, rfl⟩) (by assumption) ?_
                try simp only [Act.put, List.setIfInBounds_toArray, List.set_cons_zero, List.set_cons_succ]
                refine wpAnyH_take (i := 18) (oi := ({ dst := some 53, op := Op.move (Operand.tmp 7), type := 3, pos := "law.go:89", after := #[{ on := 11, ground := Ground.guard }], guard := some (11, true) } : Oper)) (v := undef) rfl (by kernel_rfl) (by kernel_rfl) (by kernel_rfl) (fun _ _ _ h => h) (Or.inr ⟨by rfl, rfl⟩) (by assumption) ?_
                try simp only [Act.put, List.setIfInBounds_toArray, List.set_cons_zero, List.set_cons_succ]
                refine wpAnyH_take (i := 19) (oi := ({ dst := some 54, op := Op.indexAddr 44 (Operand.tmp 52) (Operand.tmp 53), type := 0, pos := "law.go:89", after := #[{ on := 17, ground := Ground.data }, { on := 18, ground := Ground.data }, { on := 11, ground := Ground.guard }], guard := some (11, true) } : Oper)) (v := undef) rfl (by kernel_rfl) (by kernel_rfl) (by kernel_rfl) (fun _ _ _ h => h) (Or.inr ⟨by rfl, rfl⟩) (by assumption) ?_
                try simp only [Act.put, List.setIfInBounds_toArray, List.set_cons_zero, List.set_cons_succ]
                refine wpAnyH_take (i := 20) (oi := ({ dst := some 55, op := Op.fieldAddr 34 (Operand.tmp 54) 5, type := 0, pos := "law.go:89", after := #[{ on := 19, ground := Ground.data }, { on := 11, ground := Ground.guard }], guard := some (11, true) } : Oper)) (v := undef) rfl (by kernel_rfl) (by kernel_rfl) (by kernel_rfl) (fun _ _ _ h => h) (Or.inr ⟨by rfl, rfl⟩) (by assumption) ?_
                try simp only [Act.put, List.setIfInBounds_toArray, List.set_cons_zero, List.set_cons_succ]
                refine wpAnyH_take (i := 21) (oi := ({ dst := some 56, op := Op.load 9 (Operand.tmp 55), type := 9, pos := "law.go:89", after := #[{ on := 20, ground := Ground.data }, { on := 11, ground := Ground.guard }], guard := some (11, true) } : Oper)) (v := undef) rfl (by kernel_rfl) (by kernel_rfl) (by kernel_rfl) (fun _ _ _ h => h) (Or.inr ⟨by rfl, rfl⟩) (by assumption) ?_
                try simp only [Act.put, List.setIfInBounds_toArray, List.set_cons_zero, List.set_cons_succ]
                refine wpAnyH_take (i := 22) (oi := ({ dst := some 57, op := Op.binOp BinOp.eql 9 (Operand.tmp 51) (Operand.tmp 56) 9, type := 4, pos := "law.go:89", after := #[{ on := 16, ground := Ground.data }, { on := 21, ground := Ground.data }, { on := 11, ground := Ground.guard }], guard := some (11, true) } : Oper)) (v := undef) rfl (by kernel_rfl) (by kernel_rfl) (by kernel_rfl) (fun _ _ _ h => h) (Or.inr ⟨by rfl, rfl⟩) (by assumption) ?_
                try simp only [Act.put, List.setIfInBounds_toArray, List.set_cons_zero, List.set_cons_succ]
                refine wpAnyH_take (i := 23) (oi := ({ dst := some 58, op := Op.pick (Operand.tmp 46) (Operand.tmp 57) (Operand.const (Value.bool false)), type := 4, pos := "law.go:89", after := #[{ on := 11, ground := Ground.data }, { on := 22, ground := Ground.data }], guard := none } : Oper)) (v := ?hv80) rfl (by kernel_rfl) (by kernel_rfl) (by kernel_rfl) (fun _ _ _ h => h) (Or.inl ⟨by rfl, ?hy80⟩) (by assumption) ?hr80
                case hy80 => (intro w hSw; (try dsimp only at hSw); go_simp; (try with_reducible rfl))
                try simp only [Act.put, List.setIfInBounds_toArray, List.set_cons_zero, List.set_cons_succ]
                refine wpAnyH_done (by kernel_rfl) ?_ _
                go_wp2
                go_roundg (ii - (kk + 1))
                case measure => omega
                case rel => exact ⟨kk + 1, by omega, by omega, by go_num, Lib.hid (BX.out.trans (RB0.out.mono BX.out.size))⟩
            · have hl2z : ¬ (kk : Int) < (ii : Int) := by omega
              go_wp2
              go_roundg (e.n9 - (ii + 1))
              case measure => omega
              case rel => exact ⟨ii + 1, by omega, by omega, by go_num, BX⟩
        · have hltz : ¬ (ii : Int) < (e.n9 : Int) := by omega
          have XR := Lib.hid (X6.out.below BX0.out)
          have BW := Lib.hid (B6.out.trans (BX0.out.mono B6.out.size))
          have C26 := Lib.hid (fun u (hb : Below wr.heap.size wr u) => C26.out u (BX0.out.trans (hb.mono BX0.out.size)))
          have HS2 := Lib.hid (fun u (hb : Below wr.heap.size wr u) => HS2.out u (BX0.out.trans (hb.mono BX0.out.size)))
          clear hlt hg hii HND HEl
          go_upto_region 12 with (fail)
          refine wp_region_held_drew (S := (fun y => Below wr.heap.size wr y)) (by kernel_rfl) ((Below.refl wr.heap.size wr).drew) (fun hH0 => ?_)
          generalize hy0 : World.drew _ = y0 at hH0 ⊢
          have RB0 : Hid (Below wr.heap.size wr y0) := Lib.hid hH0
          clear hy0
          refine wpAnyH_take (i := 0) (oi := ({ dst := some 59, op := Op.move (Operand.tmp 5), type := 44, pos := "law.go:94", after := #[], guard := none } : Oper)) (v := ?hv81) rfl (by kernel_rfl) (by kernel_rfl) (by kernel_rfl) (fun _ _ _ h => h) (Or.inl ⟨by rfl, ?hy81⟩) (by assumption) ?hr81
          case hy81 => (intro w hSw; (try dsimp only at hSw); go_simp; (try with_reducible rfl))
          try simp only [Act.put, List.setIfInBounds_toArray, List.set_cons_zero, List.set_cons_succ]
          refine wpAnyH_take (i := 1) (oi := ({ dst := some 60, op := Op.call { callee := Callee.builtin Builtin.len, args := #[Operand.tmp 59], argTypes := #[44] }, type := 3, pos := "law.go:94", after := #[{ on := 0, ground := Ground.data }], guard := none } : Oper)) (v := ?hv82) rfl (by kernel_rfl) (by kernel_rfl) (by kernel_rfl) (fun _ _ _ h => h) (Or.inl ⟨by rfl, ?hy82⟩) (by assumption) ?hr82
          case hy82 => (intro w hSw; (try dsimp only at hSw); go_simp; (try with_reducible rfl))
          try simp only [Act.put, List.setIfInBounds_toArray, List.set_cons_zero, List.set_cons_succ]
          refine wpAnyH_take (i := 2) (oi := ({ dst := some 61, op := Op.fieldAddr 34 (Operand.tmp 3) 9, type := 0, pos := "law.go:94", after := #[], guard := none } : Oper)) (v := ?hv83) rfl (by kernel_rfl) (by kernel_rfl) (by kernel_rfl) (fun _ _ _ h => h) (Or.inl ⟨by rfl, ?hy83⟩) (by assumption) ?hr83
          case hy83 => (intro w hSw; (try dsimp only at hSw); go_simp; (try with_reducible rfl))
          try simp only [Act.put, List.setIfInBounds_toArray, List.set_cons_zero, List.set_cons_succ]
          refine wpAnyH_take (i := 3) (oi := ({ dst := some 62, op := Op.load 23 (Operand.tmp 61), type := 23, pos := "law.go:94", after := #[{ on := 2, ground := Ground.data }], guard := none } : Oper)) (v := .slice e.a9 e.n9 e.c9) rfl (by kernel_rfl) (by kernel_rfl) (by kernel_rfl) (fun _ _ _ h => h) (Or.inl ⟨by rfl, fun w0 hw0 => by have q0 := (XR.out.below hw0).cell (i := 9) rfl; go_simp⟩) (by assumption) ?_
          try simp only [Act.put, List.setIfInBounds_toArray, List.set_cons_zero, List.set_cons_succ]
          refine wpAnyH_take (i := 4) (oi := ({ dst := some 63, op := Op.call { callee := Callee.builtin Builtin.len, args := #[Operand.tmp 62], argTypes := #[23] }, type := 3, pos := "law.go:94", after := #[{ on := 3, ground := Ground.data }], guard := none } : Oper)) (v := ?hv84) rfl (by kernel_rfl) (by kernel_rfl) (by kernel_rfl) (fun _ _ _ h => h) (Or.inl ⟨by rfl, ?hy84⟩) (by assumption) ?hr84
          case hy84 => (intro w hSw; (try dsimp only at hSw); go_simp; (try with_reducible rfl))
          try simp only [Act.put, List.setIfInBounds_toArray, List.set_cons_zero, List.set_cons_succ]
          refine wpAnyH_take (i := 5) (oi := ({ dst := some 64, op := Op.binOp BinOp.eql 3 (Operand.tmp 60) (Operand.tmp 63) 3, type := 4, pos := "law.go:94", after := #[{ on := 1, ground := Ground.data }, { on := 4, ground := Ground.data }], guard := none } : Oper)) (v := ?hv85) rfl (by kernel_rfl) (by kernel_rfl) (by kernel_rfl) (fun _ _ _ h => h) (Or.inl ⟨by rfl, ?hy85⟩) (by assumption) ?hr85
          case hy85 => (intro w hSw; (try dsimp only at hSw); go_simp; (try with_reducible rfl))
          try simp only [Act.put, List.setIfInBounds_toArray, List.set_cons_zero, List.set_cons_succ]
          refine wpAnyH_take (i := 6) (oi := ({ dst := some 65, op := Op.move (Operand.tmp 64), type := 4, pos := "law.go:94", after := #[{ on := 5, ground := Ground.data }], guard := none } : Oper)) (v := ?hv86) rfl (by kernel_rfl) (by kernel_rfl) (by kernel_rfl) (fun _ _ _ h => h) (Or.inl ⟨by rfl, ?hy86⟩) (by assumption) ?hr86
          case hy86 => (intro w hSw; (try dsimp only at hSw); go_simp; (try with_reducible rfl))
          try simp only [Act.put, List.setIfInBounds_toArray, List.set_cons_zero, List.set_cons_succ]
          refine wpAnyH_take (i := 7) (oi := ({ dst := some 66, op := Op.move (Operand.tmp 5), type := 44, pos := "law.go:94", after := #[{ on := 6, ground := Ground.guard }], guard := some (6, true) } : Oper)) (v := ?hv87) rfl (by kernel_rfl) (by kernel_rfl) (by kernel_rfl) (fun _ _ _ h => h) (Or.inl ⟨by rfl, ?hy87⟩) (by assumption) ?hr87
          case hy87 => (intro w hSw; (try dsimp only at hSw); go_simp; (try with_reducible rfl))
          try simp only [Act.put, List.setIfInBounds_toArray, List.set_cons_zero, List.set_cons_succ]
          refine wpAnyH_take (i := 10) (oi := ({ dst := some 69, op := Op.fieldAddr 34 (Operand.tmp 3) 9, type := 0, pos := "law.go:94", after := #[{ on := 6, ground := Ground.guard }], guard := some (6, true) } : Oper)) (v := ?hv88) rfl (by kernel_rfl) (by kernel_rfl) (by kernel_rfl) (fun _ _ _ h => h) (Or.inl ⟨by rfl, ?hy88⟩) (by assumption) ?hr88
          case hy88 => (intro w hSw; (try dsimp only at hSw); go_simp; (try with_reducible rfl))
          try simp only [Act.put, List.setIfInBounds_toArray, List.set_cons_zero, List.set_cons_succ]
          refine wpAnyH_take (i := 11) (oi := ({ dst := some 70, op := Op.load 23 (Operand.tmp 69), type := 23, pos := "law.go:94", after := #[{ on := 10, ground := Ground.data }, { on := 6, ground := Ground.guard }], guard := some (6, true) } : Oper)) (v := .slice e.a9 e.n9 e.c9) rfl (by kernel_rfl) (by kernel_rfl) (by kernel_rfl) (fun _ _ _ h => h) (Or.inl ⟨by rfl, fun w0 hw0 => by have q0 := (XR.out.below hw0).cell (i := 9) rfl; go_simp⟩) (by assumption) ?_
          try simp only [Act.put, List.setIfInBounds_toArray, List.set_cons_zero, List.set_cons_succ]
          refine wpAnyH_ready (rs := [8]) (by kernel_rfl) (by simp) ?_
          refine AllReadyH.cons (o := ({ dst := some 67, op := Op.call { callee := Callee.value (Operand.func 26), args := #[Operand.tmp 66], argTypes := #[44] }, type := 23, pos := "law.go:94", after := #[{ on := 7, ground := Ground.data }, { on := 6, ground := Ground.chain }, { on := 6, ground := Ground.guard }], guard := some (6, true) } : Oper)) rfl (fun KK hKK => ?_) AllReadyH.nil
          go_simp
          (with_reducible refine (C26.out _ RB0.out).mono ?_)
          rintro e0 y1 ⟨A1, c1, rfl, h1, hb⟩
          have RB1 := Lib.hid (RB0.out.trans (hb.mono RB0.out.size))
          have G1 := Lib.hid h1
          clear hb
          refine hKK.out _ _ (RB1.out) (fun hH1 => ?_)
          clear hKK KK
          try simp only [Act.put, List.setIfInBounds_toArray, List.set_cons_zero, List.set_cons_succ]
          refine wpAnyH_ready (rs := [9]) (by kernel_rfl) (by simp) ?_
          refine AllReadyH.cons (o := ({ dst := some 68, op := Op.call { callee := Callee.value (Operand.func 25), args := #[Operand.tmp 67], argTypes := #[23] }, type := 23, pos := "law.go:94", after := #[{ on := 8, ground := Ground.data }, { on := 8, ground := Ground.chain }, { on := 6, ground := Ground.guard }], guard := some (6, true) } : Oper)) rfl (fun KK hKK => ?_) AllReadyH.nil
          go_simp
          (with_reducible refine (HS1.out _ _ _ G1.out).mono ?_)
          rintro e0 y2 ⟨A2, c2, rfl, h2, hb⟩
          have RB2 := Lib.hid (RB1.out.trans (hb.mono RB1.out.size))
          have G1 := Lib.hid (G1.out.below hb)
          have G2 := Lib.hid h2
          clear hb
          refine hKK.out _ _ (RB2.out) (fun hH2 => ?_)
          clear hKK KK
          try simp only [Act.put, List.setIfInBounds_toArray, List.set_cons_zero, List.set_cons_succ]
          refine wpAnyH_ready (rs := [12]) (by kernel_rfl) (by simp) ?_
          refine AllReadyH.cons (o := ({ dst := some 71, op := Op.call { callee := Callee.value (Operand.func 25), args := #[Operand.tmp 70], argTypes := #[23] }, type := 23, pos := "law.go:94", after := #[{ on := 11, ground := Ground.data }, { on := 9, ground := Ground.chain }, { on := 6, ground := Ground.guard }], guard := some (6, true) } : Oper)) rfl (fun KK hKK => ?_) AllReadyH.nil
          go_simp
          (with_reducible refine (HS2.out _ RB2.out).mono ?_)
          rintro e0 y3 ⟨A3, c3, rfl, h3, hb⟩
          have RB3 := Lib.hid (RB2.out.trans (hb.mono RB2.out.size))
          have G1 := Lib.hid (G1.out.below hb)
          have G2 := Lib.hid (G2.out.below hb)
          have G3 := Lib.hid h3
          clear hb
          refine hKK.out _ _ (RB3.out) (fun hH3 => ?_)
          clear hKK KK
          try simp only [Act.put, List.setIfInBounds_toArray, List.set_cons_zero, List.set_cons_succ]
          refine wpAnyH_ready (rs := [13]) (by kernel_rfl) (by simp) ?_
          refine AllReadyH.cons (o := ({ dst := some 72, op := Op.call { callee := Callee.value (Operand.func 15), args := #[Operand.tmp 68, Operand.tmp 71], argTypes := #[23, 23] }, type := 4, pos := "law.go:94", after := #[{ on := 9, ground := Ground.data }, { on := 12, ground := Ground.data }, { on := 12, ground := Ground.chain }, { on := 6, ground := Ground.guard }], guard := some (6, true) } : Oper)) rfl (fun KK hKK => ?_) AllReadyH.nil
          go_simp
          (with_reducible refine (sameR _ _ L.length _ _ L _ G2.out G3.out).mono ?_)
          rintro e0 y4 ⟨rfl, hb⟩
          have RB4 := Lib.hid (RB3.out.trans (hb.mono RB3.out.size))
          have G1 := Lib.hid (G1.out.below hb)
          have G2 := Lib.hid (G2.out.below hb)
          have G3 := Lib.hid (G3.out.below hb)
          clear hb
          refine hKK.out _ _ (RB4.out) (fun hH4 => ?_)
          clear hKK KK
          try simp only [Act.put, List.setIfInBounds_toArray, List.set_cons_zero, List.set_cons_succ]
          refine wpAnyH_take (i := 14) (oi := ({ dst := some 73, op := Op.pick (Operand.tmp 65) (Operand.tmp 72) (Operand.const (Value.bool false)), type := 4, pos := "law.go:94", after := #[{ on := 6, ground := Ground.data }, { on := 13, ground := Ground.data }], guard := none } : Oper)) (v := ?hv89) rfl (by kernel_rfl) (by kernel_rfl) (by kernel_rfl) (fun _ _ _ h => h) (Or.inl ⟨by rfl, ?hy89⟩) (by assumption) ?hr89
          case hy89 => (intro w hSw; (try dsimp only at hSw); go_simp; (try with_reducible rfl))
          try simp only [Act.put, List.setIfInBounds_toArray, List.set_cons_zero, List.set_cons_succ]
          refine wpAnyH_take (i := 15) (oi := ({ dst := some 74, op := Op.move (Operand.tmp 73), type := 4, pos := "law.go:94", after := #[{ on := 14, ground := Ground.data }, { on := 13, ground := Ground.chain }], guard := none } : Oper)) (v := ?hv90) rfl (by kernel_rfl) (by kernel_rfl) (by kernel_rfl) (fun _ _ _ h => h) (Or.inl ⟨by rfl, ?hy90⟩) (by assumption) ?hr90
          case hy90 => (intro w hSw; (try dsimp only at hSw); go_simp; (try with_reducible rfl))
          try simp only [Act.put, List.setIfInBounds_toArray, List.set_cons_zero, List.set_cons_succ]
          refine wpAnyH_ready (rs := [16]) (by kernel_rfl) (by simp) ?_
          refine AllReadyH.cons (o := ({ dst := some 75, op := Op.call { callee := Callee.value (Operand.func 14), args := #[], argTypes := #[] }, type := 4, pos := "law.go:94", after := #[{ on := 15, ground := Ground.chain }, { on := 15, ground := Ground.guard }], guard := some (15, true) } : Oper)) rfl (fun KK hKK => ?_) AllReadyH.nil
          go_simp
          (with_reducible refine (live14 _).mono ?_)
          rintro e0 y5 ⟨rfl, hb⟩
          have RB5 := Lib.hid (RB4.out.trans (hb.mono RB4.out.size))
          have G1 := Lib.hid (G1.out.below hb)
          have G2 := Lib.hid (G2.out.below hb)
          have G3 := Lib.hid (G3.out.below hb)
          clear hb
          refine hKK.out _ _ (RB5.out) (fun hH5 => ?_)
          clear hKK KK
          try simp only [Act.put, List.setIfInBounds_toArray, List.set_cons_zero, List.set_cons_succ]
          refine wpAnyH_take (i := 17) (oi := ({ dst := some 76, op := Op.pick (Operand.tmp 74) (Operand.tmp 75) (Operand.const (Value.bool false)), type := 4, pos := "law.go:94", after := #[{ on := 15, ground := Ground.data }, { on := 16, ground := Ground.data }], guard := none } : Oper)) (v := ?hv91) rfl (by kernel_rfl) (by kernel_rfl) (by kernel_rfl) (fun _ _ _ h => h) (Or.inl ⟨by rfl, ?hy91⟩) (by assumption) ?hr91
          case hy91 => (intro w hSw; (try dsimp only at hSw); go_simp; (try with_reducible rfl))
          try simp only [Act.put, List.setIfInBounds_toArray, List.set_cons_zero, List.set_cons_succ]
          refine wpAnyH_take (i := 18) (oi := ({ dst := some 4, op := Op.assign (Operand.tmp 76), type := 4, pos := "law.go:94", after := #[{ on := 17, ground := Ground.data }, { on := 16, ground := Ground.chain }, { on := 0, ground := Ground.phase }, { on := 1, ground := Ground.phase }, { on := 2, ground := Ground.phase }, { on := 3, ground := Ground.phase }, { on := 4, ground := Ground.phase }, { on := 5, ground := Ground.phase }, { on := 6, ground := Ground.phase }, { on := 7, ground := Ground.phase }, { on := 8, ground := Ground.phase }, { on := 9, ground := Ground.phase }, { on := 10, ground := Ground.phase }, { on := 11, ground := Ground.phase }, { on := 12, ground := Ground.phase }, { on := 13, ground := Ground.phase }, { on := 14, ground := Ground.phase }, { on := 15, ground := Ground.phase }, { on := 16, ground := Ground.phase }, { on := 17, ground := Ground.phase }], guard := none } : Oper)) (v := ?hv92) rfl (by kernel_rfl) (by kernel_rfl) (by kernel_rfl) (fun _ _ _ h => h) (Or.inl ⟨by rfl, ?hy92⟩) (by assumption) ?hr92
          case hy92 => (intro w hSw; (try dsimp only at hSw); go_simp; (try with_reducible rfl))
          try simp only [Act.put, List.setIfInBounds_toArray, List.set_cons_zero, List.set_cons_succ]
          refine wpAnyH_done (by kernel_rfl) ?_ _
          go_wp2
          go_ret
          exact ⟨rfl, BW.out.trans (RB5.out.mono BW.out.size)⟩
    all_goals
      go_ret
      exact ⟨rfl, B9.out⟩
  · have z1 : (fitsE E n e == 0) = false := beq_eq_false_iff_ne.2 hf
    have z2 : (fitsE E n e != 0) = true := bne_iff_ne.2 hf
    generalize fitsE E n e = ft at C19 z1 z2
    clear HP hf
    go_wp2_with (first
      | (go_at_call 18; (with_reducible refine HGr.out.mono ?_); rintro e1 w3 ⟨⟨q, rfl, hq⟩, hb⟩; have HQ := Lib.hid hq; have F3 := Lib.hid hb; have B3 := Lib.hid (BA.out.trans (hb.mono BA.out.size)); have R3 := Lib.hid (XA.out.below hb).range; clear hq hb; cases q)
      | (refine load_mid_g (by rfl) 34 _ rfl w.heap.size 0 rfl (cellsE e) _ R3.out Try.underlying34 rfl size39 ?_)
      | (go_at_call 10; (with_reducible refine (HLo.out _ B3.out).mono ?_); rintro e1 w4 ⟨⟨q, rfl, hq⟩, hb⟩; have HL := Lib.hid hq; have F4 := Lib.hid (F3.out.trans (hb.mono F3.out.size)); have R4 := Lib.hid (XA.out.below F4.out).range; have B4 := Lib.hid (B3.out.trans (hb.mono B3.out.size)); clear hq hb; cases q)
      | (refine load_mid_g (by rfl) 34 _ rfl w.heap.size 0 rfl (cellsE e) _ R4.out Try.underlying34 rfl size39 ?_)
      | (go_at_call 19; (with_reducible refine (C19.out _ F4.out (Nat.le_trans (fe9 (HL.out (by first | rfl | trivial))) (by omega))).mono ?_); rintro e1 w5 ⟨rfl, hb⟩; have F5 := Lib.hid (F4.out.trans (hb.mono F4.out.size)); have X5 := Lib.hid (XA.out.below F5.out); have R5 := Lib.hid X5.out.range; have B5 := Lib.hid (B4.out.trans (hb.mono B4.out.size)); clear hb)
      | (go_at_call 14; (with_reducible refine (live14 _).mono ?_); rintro e1 w9 ⟨rfl, hb⟩; have B9 := Lib.hid (B5.out.trans (hb.mono B5.out.size)); clear hb)
      | (go_at_call 14; (with_reducible refine (live14 _).mono ?_); rintro e1 w9 ⟨rfl, hb⟩; have B9 := Lib.hid (B4.out.trans (hb.mono B4.out.size)); clear hb)
      | (go_at_call 14; (with_reducible refine (live14 _).mono ?_); rintro e1 w9 ⟨rfl, hb⟩; have B9 := Lib.hid (B3.out.trans (hb.mono B3.out.size)); clear hb)
      | go_in)
    all_goals
      go_ret
      exact ⟨rfl, B9.out⟩
end Go.Proofs.Ytbedibiodlgegaa
