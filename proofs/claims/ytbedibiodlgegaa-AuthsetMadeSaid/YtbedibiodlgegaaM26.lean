/- AuthsetMade: its walk. -/
import Derived.Test.YtbedibiodlgegaaK6
import Derived.Test.YtbedibiodlgegaaKO3
import Derived.ProofKit
import Derived.OpenShut
import Derived.Lib.SmallJoins
import Derived.Test.YtbedibiodlgegaaK21
import Derived.Test.YtbedibiodlgegaaK17
namespace Go.Proofs.Ytbedibiodlgegaa
open Go.ChangeShapes Go.WideShapes Go.ChangeAt Go.RowKit Go.Joins Go.Deep
set_option linter.unusedVariables false
set_option linter.unusedSimpArgs false
set_option maxRecDepth 100000

def fitB (p : En.Rc) : Prop := En.fitR p ∧ i64B p.id
section
variable {H : Type} {en : TypeId × Value → H} {P : Program} {w : World} {base : Nat} {spare : Nat → Bool} {held : Bool}
theorem open_cells3 {t : TypeId} {f0 f1 f2 : Field} {c0 c1 c2 : Value} {fuel : Nat} {x : DataW H × List MemPlace} (hs : P.underlying t = some (.struct #[f0, f1, f2])) (hone : oneCellFields P #[f0, f1, f2] = true)
    (hf : DataW.trod en P w base spare held fuel t [c0, c1, c2] = some x) :
    ∃ (y0 y1 y2 : DataW H × List MemPlace) (n : Nat), DataW.trod en P w base spare held n f0.type [c0] = some y0 ∧ DataW.trod en P w base spare held n f1.type [c1] = some y1 ∧ DataW.trod en P w base spare held n f2.type [c2] = some y2 := by
  obtain ⟨xs, n, _, _, hl, hlen, hf⟩ := DataW.trod_struct hs hf
  match xs, hlen, hf with
  | [y0, y1, y2], _, hf =>
    have h0 := hf 0 f0 rfl
    have h1 := hf 1 f1 rfl
    have h2 := hf 2 f2 rfl
    obtain ⟨o0, k0⟩ := hone_of hone 0 f0 rfl
    obtain ⟨o1, k1⟩ := hone_of hone 1 f1 rfl
    obtain ⟨o2, k2⟩ := hone_of hone 2 f2 rfl
    exact ⟨y0, y1, y2, n, by simpa [Value.cells, o0, k0] using h0, by simpa [Value.cells, o1, k1] using h1, by simpa [Value.cells, o2, k2] using h2⟩
end
theorem cells56 : Try.prog.cellsOf 56 = 3 := by kernel_rfl
section
variable {H : Type} {en : TypeId × Value → H} {w : World} {base : Nat} {spare : Nat → Bool} {held : Bool}
theorem en_open {fuel : Nat} {cs : List Value} {x : DataW H × List MemPlace} (hl : cs.length = 3) (h : DataW.trod en Try.prog w base spare held fuel 56 cs = some x) : ∃ p : En.Rc, En.enc p = cs ∧ fitB p := by
  match cs, hl, h with
  | [c0, c1, c2], _, h =>
    obtain ⟨y0, y1, y2, m, h0, h1, h2⟩ := open_cells3 Try.underlying56 (by kernel_rfl) h
    obtain ⟨v0, e0, _, w0⟩ := DataW.trod_int Try.underlying22 h0
    have b0 := Go.bounds_i64 w0
    obtain ⟨v1, e1, _, w1⟩ := DataW.trod_string Try.underlying9 h1
    unfold maxLen at w1
    obtain ⟨v2, e2, _, w2⟩ := DataW.trod_int Try.underlying3 h2
    have b2 := Go.bounds_i64 w2
    simp only [List.cons.injEq, and_true] at e0 e1 e2
    subst e0 e1 e2
    exact ⟨⟨v0, v1, v2⟩, rfl, ⟨w1, b2⟩⟩
theorem open_ens {fuel : Nat} {A : Option Addr} {len cap : Nat} {x : DataW H × List MemPlace} (h : DataW.trod en Try.prog w base spare held fuel 40 [.slice A len cap] = some x) : ∃ zs : List En.Rc, En.Rcs w A len cap zs ∧ ∀ p ∈ zs, i64B p.id := by
  rcases Go.Deep.open_slice Try.underlying40 h with ⟨hcs, _⟩ | ⟨a, l, c, m, n, D, Pl, hcs, hb, hl, hm, hmm, hx, hi⟩
  · simp at hcs
    obtain ⟨rfl, rfl, rfl⟩ := hcs
    exact ⟨[], En.Rcs.nil w, by simp⟩
  · simp at hcs
    obtain ⟨rfl, rfl, rfl⟩ := hcs
    have hlm : len ≤ m := by rw [hmm]; split <;> omega
    have each : ∀ i, i < len → ∃ e : En.Rc, (∀ k v, (En.enc e)[k]? = some v → w.cell? (a.add (i * 3 + k)) = some v) ∧ fitB e := by
      intro i hil
      obtain ⟨cs', h1, h2⟩ := hi i (by omega)
      rw [cells56] at h1
      obtain ⟨_, hlen, hcell⟩ := World.cells?_some h1
      obtain ⟨e, he, hf⟩ := en_open hlen h2
      refine ⟨e, fun k v hv => ?_, hf⟩
      have hv' : cs'[k]? = some v := by rw [← he]; exact hv
      have hk : k < 3 := by rw [← hlen]; exact (List.getElem?_eq_some_iff.1 hv').1
      rw [← Go.Deep.add_add, hcell k hk]
      exact hv'
    obtain ⟨F, hF⟩ := choose_below En.t0 each
    have hg : ∀ j, j < len → ((List.range len).map F).getD j En.t0 = F j := by
      intro j hj
      rw [List.getD_eq_getElem?_getD, List.getElem?_eq_getElem (by simpa using hj)]
      simp
    refine ⟨(List.range len).map F, ⟨rws_of (by omega) (by decide) (fun j hj => rfl) (fun j hj => En.enc_one _) (fun j hj i v hv => ?_), by simp, hl, fun p hp => ?_⟩, fun p hp => ?_⟩
    · unfold En.rowR at hv
      rw [hg j hj] at hv
      exact (hF j hj).1 i v hv
    · obtain ⟨j, hj, rfl⟩ := List.mem_map.1 hp
      exact (hF j (by simpa using hj)).2.1
    · obtain ⟨j, hj, rfl⟩ := List.mem_map.1 hp
      exact (hF j (by simpa using hj)).2.2
end
def toK (p : En.Rc) : Ky.Rc := ⟨p.k, p.key, p.id⟩
theorem enR_of {w : World} {A : Option Addr} {n c : Nat} {zs : List En.Rc} (h : En.Rcs w A n c zs) : EnR w A n c (zs.map toK) := by
  show En.Rcs w A n c ((zs.map toK).map toE)
  rw [List.map_map, show toE ∘ toK = id from rfl, List.map_id]
  exact h
end Go.Proofs.Ytbedibiodlgegaa

namespace Go.Proofs.Ytbedibiodlgegaa
open Go Go.RowKit
set_option linter.unusedVariables false
set_option linter.unusedSimpArgs false

set_option maxRecDepth 100000 in
set_option maxHeartbeats 8000000 in
theorem fits_walk (A : Option Addr) (n c : Nat) (E : Nat → Evd) (e : Evd) (w : World) (h0 : Evx w A n E) (hc : IsCt w e.C e.a) (h : Wfe e) (p8 : Its w e.a8 e.n8 e.c8 e.p8) (p9 : Its w e.a9 e.n9 e.c9 e.p9) : Calls Try.prog 5 #[.slice A n c, .agg (cellsE e).toArray] w fun r w' => r = .returned (.bool true) ∧ Below w.heap.size w w' := by
  show Calls Try.prog 5 #[.slice A n c, .agg #[.int .i64 e.e0, .string e.e1, .string e.e2, .int .i64 e.e3, .bool e.e4, .string e.e5, .int .i64 e.e6, .int .i64 e.e7, .slice e.a8 e.n8 e.c8, .slice e.a9 e.n9 e.c9, .string e.C.tx, .int .i64 e.C.n, .int .i64 e.C.tg, .bool e.C.th, .string e.C.via, .slice e.a.aA e.C.nA e.a.aC, .slice e.a.dA e.C.nD e.a.dC, .slice e.a.uA e.C.lv.nU e.a.uC, .slice e.a.kA e.C.lv.nK e.a.kC, .int .i64 e.C.lv.d, .int .i64 e.C.lv.x3, .int .i64 e.C.lv.x4, .int .i64 e.C.lv.x5, .int .i64 e.C.lv.x6, .int .i64 e.C.lv.x7, .int .i64 e.C.lv.x8, .int .i64 e.e26, .string e.e27, .int .i64 e.e28]] w _
  have BA := Lib.hid ((Below.refl w.heap.size w).alloc (Nat.le_refl _) (.cells #[.int .i64 e.e0, .string e.e1, .string e.e2, .int .i64 e.e3, .bool e.e4, .string e.e5, .int .i64 e.e6, .int .i64 e.e7, .slice e.a8 e.n8 e.c8, .slice e.a9 e.n9 e.c9, .string e.C.tx, .int .i64 e.C.n, .int .i64 e.C.tg, .bool e.C.th, .string e.C.via, .slice e.a.aA e.C.nA e.a.aC, .slice e.a.dA e.C.nD e.a.dC, .slice e.a.uA e.C.lv.nU e.a.uC, .slice e.a.kA e.C.lv.nK e.a.kC, .int .i64 e.C.lv.d, .int .i64 e.C.lv.x3, .int .i64 e.C.lv.x4, .int .i64 e.C.lv.x5, .int .i64 e.C.lv.x6, .int .i64 e.C.lv.x7, .int .i64 e.C.lv.x8, .int .i64 e.e26, .string e.e27, .int .i64 e.e28] 34))
  have XA : Hid (Blk (w.alloc (.cells #[.int .i64 e.e0, .string e.e1, .string e.e2, .int .i64 e.e3, .bool e.e4, .string e.e5, .int .i64 e.e6, .int .i64 e.e7, .slice e.a8 e.n8 e.c8, .slice e.a9 e.n9 e.c9, .string e.C.tx, .int .i64 e.C.n, .int .i64 e.C.tg, .bool e.C.th, .string e.C.via, .slice e.a.aA e.C.nA e.a.aC, .slice e.a.dA e.C.nD e.a.dC, .slice e.a.uA e.C.lv.nU e.a.uC, .slice e.a.kA e.C.lv.nK e.a.kC, .int .i64 e.C.lv.d, .int .i64 e.C.lv.x3, .int .i64 e.C.lv.x4, .int .i64 e.C.lv.x5, .int .i64 e.C.lv.x6, .int .i64 e.C.lv.x7, .int .i64 e.C.lv.x8, .int .i64 e.e26, .string e.e27, .int .i64 e.e28] 34)) w.heap.size (cellsE e) 34) := Lib.hid (blk_new w (cellsE e) 34)
  have H := Lib.hid (h0.below BA.out)
  have HGr := Lib.hid (great13 A n c 14 E _ H.out)
  have HLo := Lib.hid (fun u (hb : Below w.heap.size w u) => long19e e u (hc.below hb) h)
  have HWf := Lib.hid h
  have H9 := Lib.hid (p9.below BA.out)
  clear h0 hc h p8 p9
  go_enter Try.func5, Try.ntmps5
  go_upto_region 3 with (first
    | (go_at_call 18; (with_reducible refine HGr.out.mono ?_); rintro e1 w3 ⟨⟨q, rfl, hq⟩, hb⟩; have HQ := Lib.hid hq; have F3 := Lib.hid hb; have B3 := Lib.hid (BA.out.trans (hb.mono BA.out.size)); have R3 := Lib.hid (XA.out.below hb).range; clear hq hb; cases q)
    | (refine load_mid_g (by rfl) 34 _ rfl w.heap.size 0 rfl (cellsE e) _ R3.out Try.underlying34 rfl size39 ?_)
    | (go_at_call 10; (with_reducible refine (HLo.out _ B3.out).mono ?_); rintro e1 w4 ⟨⟨q, rfl, hq⟩, hb⟩; have HL := Lib.hid hq; have F4 := Lib.hid (F3.out.trans (hb.mono F3.out.size)); have X4 := Lib.hid (XA.out.below F4.out); have B4 := Lib.hid (B3.out.trans (hb.mono B3.out.size)); clear hq hb; cases q)
    | fail)
  · have HF := Lib.hid (show e.n9 ≤ 40 from (HL.out trivial).2.1)
    have C19 := Lib.hid (fun u (hb : Below w4.heap.size w4 u) => fits19 A n c E e u (H.out.below (F4.out.trans (hb.mono F4.out.size))) HWf.out (H9.out.below (F4.out.trans (hb.mono F4.out.size))) (by have := HF.out; omega))
    have C20 := Lib.hid (fun u (hb : Below w4.heap.size w4 u) => rfits20 A n c E e u (H.out.below (F4.out.trans (hb.mono F4.out.size))) HWf.out (H9.out.below (F4.out.trans (hb.mono F4.out.size))) (by have := HF.out; omega))
    generalize fitsE E n e = ft at C19 C20
    clear HGr HLo HQ HL BA XA R3
    refine wp_region_held_drew (S := (fun y => Below w4.heap.size w4 y)) (by kernel_rfl) ((Below.refl w4.heap.size w4).drew) (fun hH0 => ?_)
    generalize hy0 : World.drew _ = y0 at hH0 ⊢
    have RB0 : Hid (Below w4.heap.size w4 y0) := Lib.hid hH0
    clear hy0
    refine wpAnyH_take (i := 0) (oi := ({ dst := some 11, op := Op.move (Operand.tmp 0), type := 44, pos := "law.go:48", after := #[], guard := none } : Oper)) (v := ?hv50) rfl (by kernel_rfl) (by kernel_rfl) (by kernel_rfl) (fun _ _ _ h => h) (Or.inl ⟨by rfl, ?hy50⟩) (by assumption) ?hr50
    case hy50 => (intro w hSw; (try dsimp only at hSw); go_simp; (try with_reducible rfl))
    try simp only [Act.put, List.setIfInBounds_toArray, List.set_cons_zero, List.set_cons_succ]
    refine wpAnyH_take (i := 1) (oi := ({ dst := some 12, op := Op.load 34 (Operand.tmp 3), type := 34, pos := "law.go:48", after := #[], guard := none } : Oper)) (v := .agg (cellsE e).toArray) rfl (by kernel_rfl) (by kernel_rfl) (by kernel_rfl) (fun _ _ _ h => h) (yieldsIf_load_mid (by rfl) 34 _ rfl w.heap.size 0 rfl (cellsE e) _ (fun w0 hw0 => (X4.out.below hw0).range) Try.underlying34 rfl size39) (by assumption) ?_
    try simp only [Act.put, List.setIfInBounds_toArray, List.set_cons_zero, List.set_cons_succ]
    refine wpAnyH_take (i := 3) (oi := ({ dst := some 14, op := Op.move (Operand.tmp 0), type := 44, pos := "law.go:48", after := #[], guard := none } : Oper)) (v := ?hv51) rfl (by kernel_rfl) (by kernel_rfl) (by kernel_rfl) (fun _ _ _ h => h) (Or.inl ⟨by rfl, ?hy51⟩) (by assumption) ?hr51
    case hy51 => (intro w hSw; (try dsimp only at hSw); go_simp; (try with_reducible rfl))
    try simp only [Act.put, List.setIfInBounds_toArray, List.set_cons_zero, List.set_cons_succ]
    refine wpAnyH_take (i := 4) (oi := ({ dst := some 15, op := Op.load 34 (Operand.tmp 3), type := 34, pos := "law.go:48", after := #[], guard := none } : Oper)) (v := .agg (cellsE e).toArray) rfl (by kernel_rfl) (by kernel_rfl) (by kernel_rfl) (fun _ _ _ h => h) (yieldsIf_load_mid (by rfl) 34 _ rfl w.heap.size 0 rfl (cellsE e) _ (fun w0 hw0 => (X4.out.below hw0).range) Try.underlying34 rfl size39) (by assumption) ?_
    try simp only [Act.put, List.setIfInBounds_toArray, List.set_cons_zero, List.set_cons_succ]
    refine wpAnyH_ready (rs := [2]) (by kernel_rfl) (by simp) ?_
    refine AllReadyH.cons (o := ({ dst := some 13, op := Op.call { callee := Callee.value (Operand.func 19), args := #[Operand.tmp 11, Operand.tmp 12], argTypes := #[44, 34] }, type := 46, pos := "law.go:48", after := #[{ on := 0, ground := Ground.data }, { on := 1, ground := Ground.data }], guard := none } : Oper)) rfl (fun KK hKK => ?_) AllReadyH.nil
    go_simp
    (with_reducible refine (C19.out _ RB0.out).mono ?_)
    rintro e0 y1 ⟨rfl, hb⟩
    have RB1 := Lib.hid (RB0.out.trans (hb.mono RB0.out.size))
    clear hb
    refine hKK.out _ _ (RB1.out) (fun hH1 => ?_)
    clear hKK KK
    try simp only [Act.put, List.setIfInBounds_toArray, List.set_cons_zero, List.set_cons_succ]
    refine wpAnyH_ready (rs := [5]) (by kernel_rfl) (by simp) ?_
    refine AllReadyH.cons (o := ({ dst := some 16, op := Op.call { callee := Callee.value (Operand.func 20), args := #[Operand.tmp 14, Operand.tmp 15], argTypes := #[44, 34] }, type := 46, pos := "law.go:48", after := #[{ on := 3, ground := Ground.data }, { on := 4, ground := Ground.data }, { on := 2, ground := Ground.chain }], guard := none } : Oper)) rfl (fun KK hKK => ?_) AllReadyH.nil
    go_simp
    (with_reducible refine (C20.out _ RB1.out).mono ?_)
    rintro e0 y2 ⟨rfl, hb⟩
    have RB2 := Lib.hid (RB1.out.trans (hb.mono RB1.out.size))
    clear hb
    refine hKK.out _ _ (RB2.out) (fun hH2 => ?_)
    clear hKK KK
    try simp only [Act.put, List.setIfInBounds_toArray, List.set_cons_zero, List.set_cons_succ]
    refine wpAnyH_take (i := 6) (oi := ({ dst := some 17, op := Op.binOp BinOp.eql 46 (Operand.tmp 13) (Operand.tmp 16) 46, type := 4, pos := "law.go:48", after := #[{ on := 2, ground := Ground.data }, { on := 5, ground := Ground.data }], guard := none } : Oper)) (v := ?hv52) rfl (by kernel_rfl) (by kernel_rfl) (by kernel_rfl) (fun _ _ _ h => h) (Or.inl ⟨by rfl, ?hy52⟩) (by assumption) ?hr52
    case hy52 => (intro w hSw; (try dsimp only at hSw); go_simp; (try with_reducible rfl))
    try simp only [Act.put, List.setIfInBounds_toArray, List.set_cons_zero, List.set_cons_succ]
    refine wpAnyH_take (i := 7) (oi := ({ dst := some 18, op := Op.move (Operand.tmp 17), type := 4, pos := "law.go:48", after := #[{ on := 6, ground := Ground.data }, { on := 5, ground := Ground.chain }], guard := none } : Oper)) (v := ?hv53) rfl (by kernel_rfl) (by kernel_rfl) (by kernel_rfl) (fun _ _ _ h => h) (Or.inl ⟨by rfl, ?hy53⟩) (by assumption) ?hr53
    case hy53 => (intro w hSw; (try dsimp only at hSw); go_simp; (try with_reducible rfl))
    try simp only [Act.put, List.setIfInBounds_toArray, List.set_cons_zero, List.set_cons_succ]
    refine wpAnyH_ready (rs := [8]) (by kernel_rfl) (by simp) ?_
    refine AllReadyH.cons (o := ({ dst := some 19, op := Op.call { callee := Callee.value (Operand.func 14), args := #[], argTypes := #[] }, type := 4, pos := "law.go:48", after := #[{ on := 7, ground := Ground.chain }, { on := 7, ground := Ground.guard }], guard := some (7, true) } : Oper)) rfl (fun KK hKK => ?_) AllReadyH.nil
    go_simp
    (with_reducible refine (live14 _).mono ?_)
    rintro e0 y3 ⟨rfl, hb⟩
    have RB3 := Lib.hid (RB2.out.trans (hb.mono RB2.out.size))
    clear hb
    refine hKK.out _ _ (RB3.out) (fun hH3 => ?_)
    clear hKK KK
    try simp only [Act.put, List.setIfInBounds_toArray, List.set_cons_zero, List.set_cons_succ]
    refine wpAnyH_take (i := 9) (oi := ({ dst := some 20, op := Op.pick (Operand.tmp 18) (Operand.tmp 19) (Operand.const (Value.bool false)), type := 4, pos := "law.go:48", after := #[{ on := 7, ground := Ground.data }, { on := 8, ground := Ground.data }], guard := none } : Oper)) (v := ?hv54) rfl (by kernel_rfl) (by kernel_rfl) (by kernel_rfl) (fun _ _ _ h => h) (Or.inl ⟨by rfl, ?hy54⟩) (by assumption) ?hr54
    case hy54 => (intro w hSw; (try dsimp only at hSw); go_simp; (try with_reducible rfl))
    try simp only [Act.put, List.setIfInBounds_toArray, List.set_cons_zero, List.set_cons_succ]
    refine wpAnyH_take (i := 10) (oi := ({ dst := some 4, op := Op.assign (Operand.tmp 20), type := 4, pos := "law.go:48", after := #[{ on := 9, ground := Ground.data }, { on := 8, ground := Ground.chain }, { on := 0, ground := Ground.phase }, { on := 1, ground := Ground.phase }, { on := 2, ground := Ground.phase }, { on := 3, ground := Ground.phase }, { on := 4, ground := Ground.phase }, { on := 5, ground := Ground.phase }, { on := 6, ground := Ground.phase }, { on := 7, ground := Ground.phase }, { on := 8, ground := Ground.phase }, { on := 9, ground := Ground.phase }], guard := none } : Oper)) (v := ?hv55) rfl (by kernel_rfl) (by kernel_rfl) (by kernel_rfl) (fun _ _ _ h => h) (Or.inl ⟨by rfl, ?hy55⟩) (by assumption) ?hr55
    case hy55 => (intro w hSw; (try dsimp only at hSw); go_simp; (try with_reducible rfl))
    try simp only [Act.put, List.setIfInBounds_toArray, List.set_cons_zero, List.set_cons_succ]
    refine wpAnyH_done (by kernel_rfl) ?_ _
    go_wp2
    go_ret
    exact ⟨rfl, B4.out.trans (RB3.out.mono B4.out.size)⟩
  · go_wp2
    go_ret
    exact ⟨rfl, B4.out⟩
  · go_wp2
    go_ret
    exact ⟨rfl, B3.out⟩
theorem len_map {es ds : List Evd} (h : es.map dat = ds) : es.length = ds.length := by rw [← h, List.length_map]
theorem dat_at {es fs : List Evd} {m : Nat} (h : es.map dat = fs.map dat) (hm : es.length = m) : ∀ j, j < m → dat (es.getD j ev0) = dat (fs.getD j ev0) := fun j hj => by
  have hl : es.length = fs.length := by have := congrArg List.length h; simpa using this
  have h1 : (es.map dat)[j]? = (fs.map dat)[j]? := by rw [h]
  rw [List.getElem?_map, List.getElem?_map, List.getElem?_eq_getElem (by omega), List.getElem?_eq_getElem (by omega)] at h1
  rw [List.getD_eq_getElem?_getD, List.getD_eq_getElem?_getD, List.getElem?_eq_getElem (by omega), List.getElem?_eq_getElem (by omega)]
  exact Option.some.inj h1
theorem mem_from {E : Nat → Evd} {n : Nat} {e : Evd} {d : Evd} (h : d ∈ fromD E n e) : ∃ k, k < n ∧ d = dat (E k) := by
  unfold fromD fromK at h
  obtain ⟨q, _, hq⟩ := List.mem_filterMap.1 h
  cases hf : firstK E n e.p9 q with
  | none => rw [hf] at hq; cases hq
  | some k =>
    rw [hf] at hq
    have hd : dat (E k) = d := Option.some.inj hq
    refine ⟨k, ?_, hd.symm⟩
    unfold firstK at hf
    obtain ⟨z, _, hz⟩ := List.exists_of_findSome?_eq_some hf
    unfold hit at hz
    cases hp : pl E n z with
    | none => rw [hp] at hz; cases hz
    | some j =>
      rw [hp] at hz
      have hz' : (if isEq (kyE (E j)) q then some j else none) = some k := hz
      split at hz'
      · cases hz'; exact pl_lt hp
      · cases hz'
def FewD (ds : List Evd) : Prop := ∀ d ∈ ds, d.n8 ≤ 1000000 ∧ d.n9 ≤ 1000000
theorem few_from {E : Nat → Evd} {n : Nat} {e : Evd} (h : ∀ j, j < n → Fe (E j)) : FewD (fromD E n e) := fun d hd => by
  obtain ⟨k, hk, rfl⟩ := mem_from hd
  have := h k hk
  exact ⟨show (E k).n8 ≤ 1000000 by have := this.1; omega, show (E k).n9 ≤ 1000000 by have := this.2.1; omega⟩
theorem few_at {es ds : List Evd} (h : FewD ds) (he : es.map dat = ds) : ∀ j, j < ds.length → (es.getD j ev0).n8 ≤ 1000000 ∧ (es.getD j ev0).n9 ≤ 1000000 := fun j hj => by
  have hl := len_map he
  have hm : dat (es.getD j ev0) ∈ ds := by
    rw [← he, List.getD_eq_getElem?_getD, List.getElem?_eq_getElem (by omega)]
    exact List.mem_map.2 ⟨_, List.getElem_mem _, rfl⟩
  have h2 := h _ hm
  exact h2
set_option maxRecDepth 100000 in
set_option maxHeartbeats 8000000 in
theorem froms_walk (A : Option Addr) (n c : Nat) (E : Nat → Evd) (e : Evd) (w : World) (h0 : Evx w A n E) (hc : IsCt w e.C e.a) (h : Wfe e) (p8 : Its w e.a8 e.n8 e.c8 e.p8) (p9 : Its w e.a9 e.n9 e.c9 e.p9) : Calls Try.prog 6 #[.slice A n c, .agg (cellsE e).toArray] w fun r w' => r = .returned (.bool true) ∧ Below w.heap.size w w' := by
  show Calls Try.prog 6 #[.slice A n c, .agg #[.int .i64 e.e0, .string e.e1, .string e.e2, .int .i64 e.e3, .bool e.e4, .string e.e5, .int .i64 e.e6, .int .i64 e.e7, .slice e.a8 e.n8 e.c8, .slice e.a9 e.n9 e.c9, .string e.C.tx, .int .i64 e.C.n, .int .i64 e.C.tg, .bool e.C.th, .string e.C.via, .slice e.a.aA e.C.nA e.a.aC, .slice e.a.dA e.C.nD e.a.dC, .slice e.a.uA e.C.lv.nU e.a.uC, .slice e.a.kA e.C.lv.nK e.a.kC, .int .i64 e.C.lv.d, .int .i64 e.C.lv.x3, .int .i64 e.C.lv.x4, .int .i64 e.C.lv.x5, .int .i64 e.C.lv.x6, .int .i64 e.C.lv.x7, .int .i64 e.C.lv.x8, .int .i64 e.e26, .string e.e27, .int .i64 e.e28]] w _
  have BA := Lib.hid ((Below.refl w.heap.size w).alloc (Nat.le_refl _) (.cells #[.int .i64 e.e0, .string e.e1, .string e.e2, .int .i64 e.e3, .bool e.e4, .string e.e5, .int .i64 e.e6, .int .i64 e.e7, .slice e.a8 e.n8 e.c8, .slice e.a9 e.n9 e.c9, .string e.C.tx, .int .i64 e.C.n, .int .i64 e.C.tg, .bool e.C.th, .string e.C.via, .slice e.a.aA e.C.nA e.a.aC, .slice e.a.dA e.C.nD e.a.dC, .slice e.a.uA e.C.lv.nU e.a.uC, .slice e.a.kA e.C.lv.nK e.a.kC, .int .i64 e.C.lv.d, .int .i64 e.C.lv.x3, .int .i64 e.C.lv.x4, .int .i64 e.C.lv.x5, .int .i64 e.C.lv.x6, .int .i64 e.C.lv.x7, .int .i64 e.C.lv.x8, .int .i64 e.e26, .string e.e27, .int .i64 e.e28] 34))
  have XA : Hid (Blk (w.alloc (.cells #[.int .i64 e.e0, .string e.e1, .string e.e2, .int .i64 e.e3, .bool e.e4, .string e.e5, .int .i64 e.e6, .int .i64 e.e7, .slice e.a8 e.n8 e.c8, .slice e.a9 e.n9 e.c9, .string e.C.tx, .int .i64 e.C.n, .int .i64 e.C.tg, .bool e.C.th, .string e.C.via, .slice e.a.aA e.C.nA e.a.aC, .slice e.a.dA e.C.nD e.a.dC, .slice e.a.uA e.C.lv.nU e.a.uC, .slice e.a.kA e.C.lv.nK e.a.kC, .int .i64 e.C.lv.d, .int .i64 e.C.lv.x3, .int .i64 e.C.lv.x4, .int .i64 e.C.lv.x5, .int .i64 e.C.lv.x6, .int .i64 e.C.lv.x7, .int .i64 e.C.lv.x8, .int .i64 e.e26, .string e.e27, .int .i64 e.e28] 34)) w.heap.size (cellsE e) 34) := Lib.hid (blk_new w (cellsE e) 34)
  have H := Lib.hid (h0.below BA.out)
  have HGr := Lib.hid (great13 A n c 14 E _ H.out)
  have HLo := Lib.hid (fun u (hb : Below w.heap.size w u) => long19e e u (hc.below hb) h)
  have HWf := Lib.hid h
  have H9 := Lib.hid (p9.below BA.out)
  clear h0 hc h p8 p9
  go_enter Try.func6, Try.ntmps6
  go_upto_region 3 with (first
    | (go_at_call 18; (with_reducible refine HGr.out.mono ?_); rintro e1 w3 ⟨⟨q, rfl, hq⟩, hb⟩; have HQ := Lib.hid hq; have F3 := Lib.hid hb; have B3 := Lib.hid (BA.out.trans (hb.mono BA.out.size)); have R3 := Lib.hid (XA.out.below hb).range; clear hq hb; cases q)
    | (refine load_mid_g (by rfl) 34 _ rfl w.heap.size 0 rfl (cellsE e) _ R3.out Try.underlying34 rfl size39 ?_)
    | (go_at_call 10; (with_reducible refine (HLo.out _ B3.out).mono ?_); rintro e1 w4 ⟨⟨q, rfl, hq⟩, hb⟩; have HL := Lib.hid hq; have F4 := Lib.hid (F3.out.trans (hb.mono F3.out.size)); have X4 := Lib.hid (XA.out.below F4.out); have B4 := Lib.hid (B3.out.trans (hb.mono B3.out.size)); clear hq hb; cases q)
    | fail)
  · have HF := Lib.hid (show e.n9 ≤ 40 from (HL.out trivial).2.1)
    have HFe := Lib.hid (HQ.out trivial).2
    have C22 := Lib.hid (fun u (hb : Below w4.heap.size w4 u) => from22 A n c E e u (H.out.below (F4.out.trans (hb.mono F4.out.size))) HWf.out (H9.out.below (F4.out.trans (hb.mono F4.out.size))) (by have := HF.out; omega) HFe.out)
    have C23 := Lib.hid (fun u (hb : Below w4.heap.size w4 u) => rfrom23 A n c E e u (H.out.below (F4.out.trans (hb.mono F4.out.size))) HWf.out (H9.out.below (F4.out.trans (hb.mono F4.out.size))) (by have := HF.out; omega))
    have HFw := Lib.hid (few_from (e := e) HFe.out)
    unfold EvsP at C22 C23
    generalize fromD E n e = ds at C22 C23 HFw
    clear HGr HLo HQ HL BA XA R3 HFe
    refine wp_region_held_drew (S := (fun y => Below w4.heap.size w4 y)) (by kernel_rfl) ((Below.refl w4.heap.size w4).drew) (fun hH0 => ?_)
    generalize hy0 : World.drew _ = y0 at hH0 ⊢
    have RB0 : Hid (Below w4.heap.size w4 y0) := Lib.hid hH0
    clear hy0
    refine wpAnyH_take (i := 0) (oi := ({ dst := some 11, op := Op.move (Operand.tmp 0), type := 44, pos := "law.go:56", after := #[], guard := none } : Oper)) (v := ?hv56) rfl (by kernel_rfl) (by kernel_rfl) (by kernel_rfl) (fun _ _ _ h => h) (Or.inl ⟨by rfl, ?hy56⟩) (by assumption) ?hr56
    case hy56 => (intro w hSw; (try dsimp only at hSw); go_simp; (try with_reducible rfl))
    try simp only [Act.put, List.setIfInBounds_toArray, List.set_cons_zero, List.set_cons_succ]
    refine wpAnyH_take (i := 1) (oi := ({ dst := some 12, op := Op.load 34 (Operand.tmp 3), type := 34, pos := "law.go:56", after := #[], guard := none } : Oper)) (v := .agg (cellsE e).toArray) rfl (by kernel_rfl) (by kernel_rfl) (by kernel_rfl) (fun _ _ _ h => h) (yieldsIf_load_mid (by rfl) 34 _ rfl w.heap.size 0 rfl (cellsE e) _ (fun w0 hw0 => (X4.out.below hw0).range) Try.underlying34 rfl size39) (by assumption) ?_
    try simp only [Act.put, List.setIfInBounds_toArray, List.set_cons_zero, List.set_cons_succ]
    refine wpAnyH_take (i := 3) (oi := ({ dst := some 14, op := Op.move (Operand.tmp 0), type := 44, pos := "law.go:56", after := #[], guard := none } : Oper)) (v := ?hv57) rfl (by kernel_rfl) (by kernel_rfl) (by kernel_rfl) (fun _ _ _ h => h) (Or.inl ⟨by rfl, ?hy57⟩) (by assumption) ?hr57
    case hy57 => (intro w hSw; (try dsimp only at hSw); go_simp; (try with_reducible rfl))
    try simp only [Act.put, List.setIfInBounds_toArray, List.set_cons_zero, List.set_cons_succ]
    refine wpAnyH_take (i := 4) (oi := ({ dst := some 15, op := Op.load 34 (Operand.tmp 3), type := 34, pos := "law.go:56", after := #[], guard := none } : Oper)) (v := .agg (cellsE e).toArray) rfl (by kernel_rfl) (by kernel_rfl) (by kernel_rfl) (fun _ _ _ h => h) (yieldsIf_load_mid (by rfl) 34 _ rfl w.heap.size 0 rfl (cellsE e) _ (fun w0 hw0 => (X4.out.below hw0).range) Try.underlying34 rfl size39) (by assumption) ?_
    try simp only [Act.put, List.setIfInBounds_toArray, List.set_cons_zero, List.set_cons_succ]
    refine wpAnyH_ready (rs := [2]) (by kernel_rfl) (by simp) ?_
    refine AllReadyH.cons (o := ({ dst := some 13, op := Op.call { callee := Callee.value (Operand.func 22), args := #[Operand.tmp 11, Operand.tmp 12], argTypes := #[44, 34] }, type := 44, pos := "law.go:56", after := #[{ on := 0, ground := Ground.data }, { on := 1, ground := Ground.data }], guard := none } : Oper)) rfl (fun KK hKK => ?_) AllReadyH.nil
    go_simp
    (with_reducible refine (C22.out _ RB0.out).mono ?_)
    rintro e0 y1 ⟨A1, c1, es1, rfl, hx, he, hb⟩
    have RB1 := Lib.hid (RB0.out.trans (hb.mono RB0.out.size))
    have G1 := Lib.hid hx; have E1 := Lib.hid he
    clear hb
    refine hKK.out _ _ (RB1.out) (fun hH1 => ?_)
    clear hKK KK
    try simp only [Act.put, List.setIfInBounds_toArray, List.set_cons_zero, List.set_cons_succ]
    refine wpAnyH_ready (rs := [5]) (by kernel_rfl) (by simp) ?_
    refine AllReadyH.cons (o := ({ dst := some 16, op := Op.call { callee := Callee.value (Operand.func 23), args := #[Operand.tmp 14, Operand.tmp 15], argTypes := #[44, 34] }, type := 44, pos := "law.go:56", after := #[{ on := 3, ground := Ground.data }, { on := 4, ground := Ground.data }, { on := 2, ground := Ground.chain }], guard := none } : Oper)) rfl (fun KK hKK => ?_) AllReadyH.nil
    go_simp
    (with_reducible refine (C23.out _ RB1.out).mono ?_)
    rintro e0 y2 ⟨A2, c2, es2, rfl, hx, he, hb⟩
    have RB2 := Lib.hid (RB1.out.trans (hb.mono RB1.out.size))
    have G1 := Lib.hid (G1.out.below hb)
    have G2 := Lib.hid hx; have E2 := Lib.hid he
    clear hb
    refine hKK.out _ _ (RB2.out) (fun hH2 => ?_)
    clear hKK KK
    try simp only [Act.put, List.setIfInBounds_toArray, List.set_cons_zero, List.set_cons_succ]
    refine wpAnyH_ready (rs := [6]) (by kernel_rfl) (by simp) ?_
    refine AllReadyH.cons (o := ({ dst := some 17, op := Op.call { callee := Callee.value (Operand.func 21), args := #[Operand.tmp 13, Operand.tmp 16], argTypes := #[44, 44] }, type := 4, pos := "law.go:56", after := #[{ on := 2, ground := Ground.data }, { on := 5, ground := Ground.data }, { on := 5, ground := Ground.chain }], guard := none } : Oper)) rfl (fun KK hKK => ?_) AllReadyH.nil
    go_simp
    (with_reducible refine (sameAll21 _ _ ds.length _ _ _ _ _ G1.out G2.out (dat_at (E1.out.trans E2.out.symm) (len_map E1.out)) (few_at HFw.out E1.out)).mono ?_)
    rintro e0 y3 ⟨rfl, hb⟩
    have RB3 := Lib.hid (RB2.out.trans (hb.mono RB2.out.size))
    have G1 := Lib.hid (G1.out.below hb)
    have G2 := Lib.hid (G2.out.below hb)
    clear hb
    refine hKK.out _ _ (RB3.out) (fun hH3 => ?_)
    clear hKK KK
    try simp only [Act.put, List.setIfInBounds_toArray, List.set_cons_zero, List.set_cons_succ]
    refine wpAnyH_take (i := 7) (oi := ({ dst := some 18, op := Op.move (Operand.tmp 17), type := 4, pos := "law.go:56", after := #[{ on := 6, ground := Ground.data }, { on := 6, ground := Ground.chain }], guard := none } : Oper)) (v := ?hv58) rfl (by kernel_rfl) (by kernel_rfl) (by kernel_rfl) (fun _ _ _ h => h) (Or.inl ⟨by rfl, ?hy58⟩) (by assumption) ?hr58
    case hy58 => (intro w hSw; (try dsimp only at hSw); go_simp; (try with_reducible rfl))
    try simp only [Act.put, List.setIfInBounds_toArray, List.set_cons_zero, List.set_cons_succ]
    refine wpAnyH_ready (rs := [8]) (by kernel_rfl) (by simp) ?_
    refine AllReadyH.cons (o := ({ dst := some 19, op := Op.call { callee := Callee.value (Operand.func 14), args := #[], argTypes := #[] }, type := 4, pos := "law.go:56", after := #[{ on := 7, ground := Ground.chain }, { on := 7, ground := Ground.guard }], guard := some (7, true) } : Oper)) rfl (fun KK hKK => ?_) AllReadyH.nil
    go_simp
    (with_reducible refine (live14 _).mono ?_)
    rintro e0 y4 ⟨rfl, hb⟩
    have RB4 := Lib.hid (RB3.out.trans (hb.mono RB3.out.size))
    have G1 := Lib.hid (G1.out.below hb)
    have G2 := Lib.hid (G2.out.below hb)
    clear hb
    refine hKK.out _ _ (RB4.out) (fun hH4 => ?_)
    clear hKK KK
    try simp only [Act.put, List.setIfInBounds_toArray, List.set_cons_zero, List.set_cons_succ]
    refine wpAnyH_take (i := 9) (oi := ({ dst := some 20, op := Op.pick (Operand.tmp 18) (Operand.tmp 19) (Operand.const (Value.bool false)), type := 4, pos := "law.go:56", after := #[{ on := 7, ground := Ground.data }, { on := 8, ground := Ground.data }], guard := none } : Oper)) (v := ?hv59) rfl (by kernel_rfl) (by kernel_rfl) (by kernel_rfl) (fun _ _ _ h => h) (Or.inl ⟨by rfl, ?hy59⟩) (by assumption) ?hr59
    case hy59 => (intro w hSw; (try dsimp only at hSw); go_simp; (try with_reducible rfl))
    try simp only [Act.put, List.setIfInBounds_toArray, List.set_cons_zero, List.set_cons_succ]
    refine wpAnyH_take (i := 10) (oi := ({ dst := some 4, op := Op.assign (Operand.tmp 20), type := 4, pos := "law.go:56", after := #[{ on := 9, ground := Ground.data }, { on := 8, ground := Ground.chain }, { on := 0, ground := Ground.phase }, { on := 1, ground := Ground.phase }, { on := 2, ground := Ground.phase }, { on := 3, ground := Ground.phase }, { on := 4, ground := Ground.phase }, { on := 5, ground := Ground.phase }, { on := 6, ground := Ground.phase }, { on := 7, ground := Ground.phase }, { on := 8, ground := Ground.phase }, { on := 9, ground := Ground.phase }], guard := none } : Oper)) (v := ?hv60) rfl (by kernel_rfl) (by kernel_rfl) (by kernel_rfl) (fun _ _ _ h => h) (Or.inl ⟨by rfl, ?hy60⟩) (by assumption) ?hr60
    case hy60 => (intro w hSw; (try dsimp only at hSw); go_simp; (try with_reducible rfl))
    try simp only [Act.put, List.setIfInBounds_toArray, List.set_cons_zero, List.set_cons_succ]
    refine wpAnyH_done (by kernel_rfl) ?_ _
    go_wp2
    go_ret
    exact ⟨rfl, B4.out.trans (RB4.out.mono B4.out.size)⟩
  · go_wp2
    go_ret
    exact ⟨rfl, B4.out⟩
  · go_wp2
    go_ret
    exact ⟨rfl, B3.out⟩
end Go.Proofs.Ytbedibiodlgegaa

namespace Go.Proofs.Ytbedibiodlgegaa
open Go Go.RowKit
set_option linter.unusedVariables false
set_option linter.unusedSimpArgs false

theorem fits_ok {E : Nat → Evd} {n : Nat} {e : Evd} (h : fitsE E n e = 0) : allIn E n e = true ∧ noBad (keysE e) ((paE E n e).map kyE) = true := by
  unfold fitsE at h
  by_cases h1 : allIn E n e = false
  · rw [if_pos h1] at h; exact absurd h (by decide)
  rw [if_neg h1] at h
  by_cases h2 : sameRm E n e = false
  · rw [if_pos h2] at h; exact absurd h (by decide)
  rw [if_neg h2] at h
  by_cases h3 : noBad (keysE e) ((paE E n e).map kyE) = false
  · rw [if_pos h3] at h; exact absurd h (by decide)
  exact ⟨by simpa using h1, by simpa using h3⟩
def kzO (E : Nat → Evd) (n : Nat) (z : Int) : Ky.Rc := kyE (E (plN E n z))
theorem pa_map (E : Nat → Evd) (n : Nat) (e : Evd) : (paE E n e).map kyE = e.p9.map (kzO E n) := by unfold paE; rw [List.map_map]; rfl
theorem nobad_in {kl ps : List Ky.Rc} (h : noBad kl ps = true) : ∀ p ∈ ps, p ∈ kl := fun p hp => by
  obtain ⟨j, hj, rfl⟩ := List.getElem_of_mem hp
  unfold noBad at h
  rw [List.all_eq_true] at h
  have h1 := h j (by simpa using hj)
  unfold badK at h1
  rw [Ky.getD_at hj] at h1
  simp only [Bool.not_or, Bool.not_not, Bool.and_eq_true] at h1
  obtain ⟨q, hq, he⟩ := List.any_eq_true.1 h1.1
  have : ps[j] = q := of_decide_eq_true he
  rw [this]; exact hq
theorem nobad_nodup {kl ps : List Ky.Rc} (h : noBad kl ps = true) : ps.Nodup := by
  rw [List.nodup_iff_pairwise_ne, List.pairwise_iff_getElem]
  intro i j hi hj hij he
  unfold noBad at h
  rw [List.all_eq_true] at h
  have h1 := h j (by simpa using hj)
  unfold badK at h1
  rw [Ky.getD_at hj] at h1
  simp only [Bool.not_or, Bool.not_not, Bool.and_eq_true] at h1
  have h2 : (ps.take j).any (isEq ps[j]) = true := by
    rw [List.any_eq_true]
    refine ⟨ps[i], ?_, decide_eq_true he.symm⟩
    rw [List.mem_take_iff_getElem]
    exact ⟨i, by omega, rfl⟩
  rw [h2] at h1
  exact absurd h1.2 (by decide)
theorem pl_id {E : Nat → Evd} {z : Int} {k : Nat} : ∀ {n : Nat}, pl E n z = some k → (E k).e0 = z := by
  intro n
  induction n with
  | zero => intro h; cases h
  | succ n ih =>
    intro h
    rw [pl_succ] at h
    cases e : pl E n z with
    | some j => rw [e] at h; cases h; exact ih e
    | none =>
      rw [e] at h
      simp only [Option.none_or] at h
      split at h
      · cases h; assumption
      · cases h
/-- What the first hit is. -/
theorem first_spec {E : Nat → Evd} {n : Nat} {ps : List Int} {q : Ky.Rc} {k : Nat} (h : firstK E n ps q = some k) : ∃ z, z ∈ ps ∧ pl E n z = some k ∧ kyE (E k) = q := by
  unfold firstK at h
  obtain ⟨z, hz, hh⟩ := List.exists_of_findSome?_eq_some h
  refine ⟨z, hz, ?_⟩
  unfold hit at hh
  cases hp : pl E n z with
  | none => rw [hp] at hh; cases hh
  | some j =>
    rw [hp] at hh
    have hh' : (if isEq (kyE (E j)) q then some j else none) = some k := hh
    split at hh'
    · rename_i hq
      cases hh'
      exact ⟨rfl, of_decide_eq_true hq⟩
    · cases hh'
theorem first_some {E : Nat → Evd} {n : Nat} {ps : List Int} {z : Int} {k : Nat} (hz : z ∈ ps) (h : pl E n z = some k) : ∃ j, firstK E n ps (kyE (E k)) = some j := by
  cases hf : firstK E n ps (kyE (E k)) with
  | some j => exact ⟨j, rfl⟩
  | none =>
    unfold firstK at hf
    rw [List.findSome?_eq_none_iff] at hf
    have := hf z hz
    rw [hit_some h rfl] at this
    cases this
theorem from_keys (E : Nat → Evd) (n : Nat) (ps : List Int) : ∀ kl : List Ky.Rc, (fromK E n ps kl).map kyE = kl.filter (fun q => (firstK E n ps q).isSome)
  | [] => rfl
  | q :: r => by
    have ih := from_keys E n ps r
    unfold fromK at ih ⊢
    rw [List.filterMap_cons, List.filter_cons]
    cases hf : firstK E n ps q with
    | none => exact ih
    | some k =>
      show (dat (E k) :: _).map kyE = q :: _
      rw [List.map_cons, show kyE (dat (E k)) = q from (first_spec hf).choose_spec.2.2, ih]
theorem from_nodup (E : Nat → Evd) (n : Nat) (e : Evd) : ((fromD E n e).map kyE).Nodup := by
  unfold fromD
  rw [from_keys]
  exact (Ky.srt_nodup (Ky.keysL_srt _ _ _ _)).sublist List.filter_sublist
theorem inj_nodup {α β : Type} {l : List α} {f : α → β} (h : (l.map f).Nodup) {a b : α} (ha : a ∈ l) (hb : b ∈ l) (e : f a = f b) : a = b := by
  obtain ⟨i, hi, rfl⟩ := List.getElem_of_mem ha
  obtain ⟨j, hj, rfl⟩ := List.getElem_of_mem hb
  rw [List.nodup_iff_pairwise_ne, List.pairwise_iff_getElem] at h
  rcases Nat.lt_trichotomy i j with hij | hij | hij
  · exact absurd (by rw [List.getElem_map, List.getElem_map]; exact e) (h i j (by rw [List.length_map]; exact hi) (by rw [List.length_map]; exact hj) hij)
  · subst hij; rfl
  · exact absurd (by rw [List.getElem_map, List.getElem_map]; exact e.symm) (h j i (by rw [List.length_map]; exact hj) (by rw [List.length_map]; exact hi) hij)
theorem whole_plain {E : Nat → Evd} {n : Nat} {e : Evd} (h : fitsE E n e = 0) : (fromD E n e).length = e.p9.length ∧ (∀ z, z ∈ (fromD E n e).map (fun d => d.e0) ↔ z ∈ e.p9) := by
  obtain ⟨h0, hb⟩ := fits_ok h
  rw [pa_map] at hb
  have hin := nobad_in hb
  have hnd := nobad_nodup hb
  have hsome : ∀ z, z ∈ e.p9 → ∃ k, pl E n z = some k ∧ kzO E n z = kyE (E k) := fun z hz => by
    unfold allIn at h0
    rw [List.all_eq_true] at h0
    obtain ⟨k, hk⟩ := Option.isSome_iff_exists.1 (h0 z hz)
    exact ⟨k, hk, by unfold kzO plN; rw [hk]; rfl⟩
  constructor
  · have hp : ((fromD E n e).map kyE).Perm (e.p9.map (kzO E n)) := by
      refine (List.perm_ext_iff_of_nodup (from_nodup E n e) hnd).2 fun q => ?_
      unfold fromD
      rw [from_keys, List.mem_filter]
      constructor
      · rintro ⟨hq, hs⟩
        obtain ⟨k, hk⟩ := Option.isSome_iff_exists.1 hs
        obtain ⟨z, hz, hp, hq'⟩ := first_spec hk
        refine List.mem_map.2 ⟨z, hz, ?_⟩
        unfold kzO plN; rw [hp]; exact hq'
      · intro hq
        refine ⟨hin q hq, ?_⟩
        obtain ⟨z, hz, rfl⟩ := List.mem_map.1 hq
        obtain ⟨k, hk, hkk⟩ := hsome z hz
        rw [hkk]
        obtain ⟨j, hj⟩ := first_some hz hk
        rw [hj]; rfl
    have := hp.length_eq
    rwa [List.length_map, List.length_map] at this
  · intro z
    rw [List.mem_map]
    constructor
    · rintro ⟨d, hd, rfl⟩
      unfold fromD fromK at hd
      obtain ⟨q, _, hq⟩ := List.mem_filterMap.1 hd
      cases hf : firstK E n e.p9 q with
      | none => rw [hf] at hq; cases hq
      | some k =>
        rw [hf] at hq
        have hdd : dat (E k) = d := Option.some.inj hq
        obtain ⟨z, hz, hp, _⟩ := first_spec hf
        rw [← hdd, show (dat (E k)).e0 = (E k).e0 from rfl, pl_id hp]
        exact hz
    · intro hz
      obtain ⟨k, hk, hkk⟩ := hsome z hz
      obtain ⟨j, hj⟩ := first_some hz hk
      obtain ⟨z', hz', hp', hq'⟩ := first_spec hj
      have hzz : z' = z := by
        refine inj_nodup hnd hz' hz ?_
        rw [hkk]
        unfold kzO plN; rw [hp']; exact hq'
      subst hzz
      refine ⟨dat (E j), ?_, ?_⟩
      · unfold fromD fromK
        exact List.mem_filterMap.2 ⟨kyE (E k), hin _ (by rw [← hkk]; exact List.mem_map.2 ⟨z', hz, rfl⟩), by rw [hj]; rfl⟩
      · exact pl_id hp'
def idsO (n : Nat) (E : Nat → Evd) : List Int := (List.range n).map fun j => (E j).e0
theorem idsO_succ (n : Nat) (E : Nat → Evd) : idsO (n + 1) E = idsO n E ++ [(E n).e0] := by unfold idsO; rw [List.range_succ, List.map_append]; rfl
theorem idsO_len (n : Nat) (E : Nat → Evd) : (idsO n E).length = n := by unfold idsO; rw [List.length_map, List.length_range]
theorem idsO_es {es ds : List Evd} (h : es.map dat = ds) : idsO ds.length (fun j => es.getD j ev0) = ds.map (fun d => d.e0) := by
  have hl := len_map h
  unfold idsO
  refine List.ext_getElem (by rw [List.length_map, List.length_range, List.length_map]) fun i h0 h2 => ?_
  have h1 : i < ds.length := by simpa using h0
  rw [List.getElem_map, List.getElem_map, List.getElem_range]
  show (es.getD i ev0).e0 = _
  rw [List.getD_eq_getElem?_getD, List.getElem?_eq_getElem (by omega)]
  have h3 : (es.map dat)[i]? = some ds[i] := by rw [h]; exact List.getElem?_eq_getElem h1
  rw [List.getElem?_map, List.getElem?_eq_getElem (by omega)] at h3
  have h4 : dat es[i] = ds[i] := Option.some.inj h3
  rw [← h4]; rfl
set_option maxHeartbeats 4000000 in
theorem ids26 (A : Option Addr) (n c : Nat) (E : Nat → Evd) (w : World) (h : Evx w A n E) (hn : n ≤ 1000000) : Calls Try.prog 26 #[.slice A n c] w (IntP w (idsO n E)) := by
  have H := Lib.hid h
  have hbig := h.big
  clear h
  obtain ⟨i0, hi, hz0, hz1, hz2⟩ := info_parts info3
  have HI := Lib.hid (And.intro hi (And.intro hz0 (And.intro hz1 hz2)))
  clear hi hz0 hz1 hz2
  have O0 : Hid (w.ownsRow w.heap.size 3 1 (.slice none 0 0) 0 ((idsO 0 E).map (Value.int .i64))) := Lib.hid (World.ownsRow_nil w _ _ _)
  go_enter Try.func26, Try.ntmps26
  go_wp2
  go_loopg [3, 4] n (fun gg s3 s4 wr => ∃ (kk : Nat) (v : Value), kk ≤ n ∧ n - kk ≤ gg ∧ v = s3 ∧ s4 = .int .i64 kk ∧ Hid (wr.ownsRow w.heap.size 3 1 v kk ((idsO kk E).map (Value.int .i64))) ∧ Hid (Below w.heap.size w wr))
  case atStart => exact ⟨0, _, Nat.zero_le _, by omega, rfl, rfl, O0, Lib.hid (Below.refl _ _)⟩
  case round =>
    obtain ⟨kk, v, hkk, hg, rfl, rfl, HO, BW⟩ := hrel
    by_cases hlt : kk < n
    · have hltz : (kk : Int) < (n : Int) := by omega
      have hk0 : (0 : Int) ≤ (kk : Int) := by omega
      obtain ⟨b, off, rfl, k0⟩ := (H.out.below BW.out).id hlt
      have HS := Lib.hid (idsO_succ kk E)
      generalize (E kk).e0 = z at k0 HS
      go_wp2_with (first
        | (at_builtin; refine wpList_append_any _ rfl _ _ 23 rfl w.heap.size 3 i0 _ 1 8 Try.underlying23 HI.out.1 HI.out.2.1 HI.out.2.2.1 HI.out.2.2.2 rfl (by decide) v kk ((idsO kk E).map (Value.int .i64)) rfl (HO.out.alloc _) _ 1 1 [.int .i64 z] rfl (int_src2 _ z) (by unfold maxLen; omega) (by omega) (BW.out.alloc BW.out.size _).size ?_; intro v4 w4 hgr; have B4 := Lib.hid (hgr.below (BW.out.alloc BW.out.size _) (HO.out.alloc _)); have O4 := Lib.hid hgr.own; clear hgr)
        | go_in)
      go_roundg (n - (kk + 1))
      case measure => omega
      case rel => exact ⟨kk + 1, v4, by omega, by omega, rfl, by go_num, Lib.hid (by rw [HS.out, List.map_append]; exact O4.out), B4⟩
    · have hltz : ¬ (kk : Int) < (n : Int) := by omega
      have HKn := Lib.hid (show kk = n by omega)
      obtain ⟨A4, c4, hv4, _⟩ := Q.own_slice HO.out
      subst hv4
      go_wp2
      go_ret
      rw [HKn.out] at HO
      exact ⟨A4, c4, by first | (rw [idsO_len]; rfl) | (rw [idsO_len, HKn.out]; rfl), by rw [idsO_len]; exact Q.own_ints HO.out hn, BW.out⟩
end Go.Proofs.Ytbedibiodlgegaa

namespace Go.Proofs.Ytbedibiodlgegaa
open Go Go.RowKit
set_option linter.unusedVariables false
set_option linter.unusedSimpArgs false

theorem sameR (A1 A2 : Option Addr) (n c1 c2 : Nat) (l : List Int) (w : World) (h1 : Q.Ints w A1 n c1 l) (h2 : Q.Ints w A2 n c2 l) : Calls Try.prog 15 #[.slice A1 n c1, .slice A2 n c2] w fun e w' => e = .returned (.bool true) ∧ Below w.heap.size w w' :=
  (Q.same_any A1 n c1 l A2 n c2 l w h1 h2).mono fun e w' h => ⟨by rw [h.1, decide_eq_true rfl], h.2⟩
theorem fe9 {e : Evd} (h : Fe e) : e.n9 ≤ 40 := h.2.1
theorem es_ne {es : List Evd} (h : (es.map kyE).Nodup) {i k : Nat} (hk : k < i) (hi : i < es.length) : ¬ ((es.getD i ev0).e3 = (es.getD k ev0).e3 ∧ (es.getD i ev0).e5.toList = (es.getD k ev0).e5.toList) := by
  rintro ⟨h1, h2⟩
  rw [List.nodup_iff_pairwise_ne, List.pairwise_iff_getElem] at h
  refine h k i (by rw [List.length_map]; omega) (by rw [List.length_map]; omega) hk ?_
  rw [List.getElem_map, List.getElem_map]
  rw [List.getD_eq_getElem?_getD, List.getElem?_eq_getElem hi, List.getD_eq_getElem?_getD, List.getElem?_eq_getElem (by omega)] at h1 h2
  exact (Ky.eq_iff3 _ _).2 ⟨h1.symm, h2.symm, rfl⟩
theorem es_kyE {es ds : List Evd} (h : es.map dat = ds) : es.map kyE = ds.map kyE := by rw [← h, List.map_map]; rfl
set_option maxRecDepth 100000 in
set_option maxHeartbeats 16000000 in
theorem whole_walk (A : Option Addr) (n c : Nat) (E : Nat → Evd) (e : Evd) (w : World) (h0 : Evx w A n E) (hc : IsCt w e.C e.a) (h : Wfe e) (p8 : Its w e.a8 e.n8 e.c8 e.p8) (p9 : Its w e.a9 e.n9 e.c9 e.p9) : Calls Try.prog 8 #[.slice A n c, .agg (cellsE e).toArray] w fun r w' => r = .returned (.bool true) ∧ Below w.heap.size w w' := by
  show Calls Try.prog 8 #[.slice A n c, .agg #[.int .i64 e.e0, .string e.e1, .string e.e2, .int .i64 e.e3, .bool e.e4, .string e.e5, .int .i64 e.e6, .int .i64 e.e7, .slice e.a8 e.n8 e.c8, .slice e.a9 e.n9 e.c9, .string e.C.tx, .int .i64 e.C.n, .int .i64 e.C.tg, .bool e.C.th, .string e.C.via, .slice e.a.aA e.C.nA e.a.aC, .slice e.a.dA e.C.nD e.a.dC, .slice e.a.uA e.C.lv.nU e.a.uC, .slice e.a.kA e.C.lv.nK e.a.kC, .int .i64 e.C.lv.d, .int .i64 e.C.lv.x3, .int .i64 e.C.lv.x4, .int .i64 e.C.lv.x5, .int .i64 e.C.lv.x6, .int .i64 e.C.lv.x7, .int .i64 e.C.lv.x8, .int .i64 e.e26, .string e.e27, .int .i64 e.e28]] w _
  have BA := Lib.hid ((Below.refl w.heap.size w).alloc (Nat.le_refl _) (.cells #[.int .i64 e.e0, .string e.e1, .string e.e2, .int .i64 e.e3, .bool e.e4, .string e.e5, .int .i64 e.e6, .int .i64 e.e7, .slice e.a8 e.n8 e.c8, .slice e.a9 e.n9 e.c9, .string e.C.tx, .int .i64 e.C.n, .int .i64 e.C.tg, .bool e.C.th, .string e.C.via, .slice e.a.aA e.C.nA e.a.aC, .slice e.a.dA e.C.nD e.a.dC, .slice e.a.uA e.C.lv.nU e.a.uC, .slice e.a.kA e.C.lv.nK e.a.kC, .int .i64 e.C.lv.d, .int .i64 e.C.lv.x3, .int .i64 e.C.lv.x4, .int .i64 e.C.lv.x5, .int .i64 e.C.lv.x6, .int .i64 e.C.lv.x7, .int .i64 e.C.lv.x8, .int .i64 e.e26, .string e.e27, .int .i64 e.e28] 34))
  have XA : Hid (Blk (w.alloc (.cells #[.int .i64 e.e0, .string e.e1, .string e.e2, .int .i64 e.e3, .bool e.e4, .string e.e5, .int .i64 e.e6, .int .i64 e.e7, .slice e.a8 e.n8 e.c8, .slice e.a9 e.n9 e.c9, .string e.C.tx, .int .i64 e.C.n, .int .i64 e.C.tg, .bool e.C.th, .string e.C.via, .slice e.a.aA e.C.nA e.a.aC, .slice e.a.dA e.C.nD e.a.dC, .slice e.a.uA e.C.lv.nU e.a.uC, .slice e.a.kA e.C.lv.nK e.a.kC, .int .i64 e.C.lv.d, .int .i64 e.C.lv.x3, .int .i64 e.C.lv.x4, .int .i64 e.C.lv.x5, .int .i64 e.C.lv.x6, .int .i64 e.C.lv.x7, .int .i64 e.C.lv.x8, .int .i64 e.e26, .string e.e27, .int .i64 e.e28] 34)) w.heap.size (cellsE e) 34) := Lib.hid (blk_new w (cellsE e) 34)
  have H := Lib.hid (h0.below BA.out)
  have HGr := Lib.hid (great13 A n c 14 E _ H.out)
  have HLo := Lib.hid (fun u (hb : Below w.heap.size w u) => long19e e u (hc.below hb) h)
  have HWf := Lib.hid h
  have H9 := Lib.hid (p9.below BA.out)
  clear h0 hc h p8 p9
  have C19 := Lib.hid (fun u (hb : Below (w.alloc (.cells #[.int .i64 e.e0, .string e.e1, .string e.e2, .int .i64 e.e3, .bool e.e4, .string e.e5, .int .i64 e.e6, .int .i64 e.e7, .slice e.a8 e.n8 e.c8, .slice e.a9 e.n9 e.c9, .string e.C.tx, .int .i64 e.C.n, .int .i64 e.C.tg, .bool e.C.th, .string e.C.via, .slice e.a.aA e.C.nA e.a.aC, .slice e.a.dA e.C.nD e.a.dC, .slice e.a.uA e.C.lv.nU e.a.uC, .slice e.a.kA e.C.lv.nK e.a.kC, .int .i64 e.C.lv.d, .int .i64 e.C.lv.x3, .int .i64 e.C.lv.x4, .int .i64 e.C.lv.x5, .int .i64 e.C.lv.x6, .int .i64 e.C.lv.x7, .int .i64 e.C.lv.x8, .int .i64 e.e26, .string e.e27, .int .i64 e.e28] 34)).heap.size (w.alloc (.cells #[.int .i64 e.e0, .string e.e1, .string e.e2, .int .i64 e.e3, .bool e.e4, .string e.e5, .int .i64 e.e6, .int .i64 e.e7, .slice e.a8 e.n8 e.c8, .slice e.a9 e.n9 e.c9, .string e.C.tx, .int .i64 e.C.n, .int .i64 e.C.tg, .bool e.C.th, .string e.C.via, .slice e.a.aA e.C.nA e.a.aC, .slice e.a.dA e.C.nD e.a.dC, .slice e.a.uA e.C.lv.nU e.a.uC, .slice e.a.kA e.C.lv.nK e.a.kC, .int .i64 e.C.lv.d, .int .i64 e.C.lv.x3, .int .i64 e.C.lv.x4, .int .i64 e.C.lv.x5, .int .i64 e.C.lv.x6, .int .i64 e.C.lv.x7, .int .i64 e.C.lv.x8, .int .i64 e.e26, .string e.e27, .int .i64 e.e28] 34)) u) (h9 : e.n9 ≤ 1000000) => fits19 A n c E e u (H.out.below hb) HWf.out (H9.out.below hb) h9)
  have HP := Lib.hid (fun h => whole_plain (E := E) (n := n) (e := e) h)
  have HLp := Lib.hid H9.out.len
  go_enter Try.func8, Try.ntmps8
  by_cases hf : fitsE E n e = 0
  · rw [hf] at C19
    have HPl := Lib.hid (HP.out hf)
    clear HP hf
    go_upto_region 4 with (first
      | (go_at_call 18; (with_reducible refine HGr.out.mono ?_); rintro e1 w3 ⟨⟨q, rfl, hq⟩, hb⟩; have HQ := Lib.hid hq; have F3 := Lib.hid hb; have B3 := Lib.hid (BA.out.trans (hb.mono BA.out.size)); have R3 := Lib.hid (XA.out.below hb).range; clear hq hb; cases q)
      | (refine load_mid_g (by rfl) 34 _ rfl w.heap.size 0 rfl (cellsE e) _ R3.out Try.underlying34 rfl size39 ?_)
      | (go_at_call 10; (with_reducible refine (HLo.out _ B3.out).mono ?_); rintro e1 w4 ⟨⟨q, rfl, hq⟩, hb⟩; have HL := Lib.hid hq; have F4 := Lib.hid (F3.out.trans (hb.mono F3.out.size)); have R4 := Lib.hid (XA.out.below F4.out).range; have B4 := Lib.hid (B3.out.trans (hb.mono B3.out.size)); clear hq hb; cases q)
      | (refine load_mid_g (by rfl) 34 _ rfl w.heap.size 0 rfl (cellsE e) _ R4.out Try.underlying34 rfl size39 ?_)
      | (go_at_call 19; (with_reducible refine (C19.out _ F4.out (Nat.le_trans (fe9 (HL.out (by first | rfl | trivial))) (by omega))).mono ?_); rintro e1 w5 ⟨rfl, hb⟩; have F5 := Lib.hid (F4.out.trans (hb.mono F4.out.size)); have X5 := Lib.hid (XA.out.below F5.out); have R5 := Lib.hid X5.out.range; have B5 := Lib.hid (B4.out.trans (hb.mono B4.out.size)); clear hb)
      | (refine wpList_load_mid rfl 34 _ rfl w.heap.size 0 rfl (cellsE e) _ R5.out Try.underlying34 rfl size39 ?_)
      | (go_at_call 22; (with_reducible refine (from22 A n c E e _ (H.out.below F5.out) HWf.out (H9.out.below F5.out) (Nat.le_trans (fe9 (HL.out (by first | rfl | trivial))) (by omega)) (HQ.out (by first | rfl | trivial)).2).mono ?_); rintro e1 w6 ⟨A6, c6, es, rfl, hx, he, hb⟩; have G6 := Lib.hid hx; have HE6 := Lib.hid he; have F6 := Lib.hid (F5.out.trans (hb.mono F5.out.size)); have X6 := Lib.hid (X5.out.below hb); have B6 := Lib.hid (B5.out.trans (hb.mono B5.out.size)); clear hx he hb)
      | (go_at_call 14; (with_reducible refine (live14 _).mono ?_); rintro e1 w9 ⟨rfl, hb⟩; have B9 := Lib.hid (B5.out.trans (hb.mono B5.out.size)); clear hb)
      | (go_at_call 14; (with_reducible refine (live14 _).mono ?_); rintro e1 w9 ⟨rfl, hb⟩; have B9 := Lib.hid (B4.out.trans (hb.mono B4.out.size)); clear hb)
      | (go_at_call 14; (with_reducible refine (live14 _).mono ?_); rintro e1 w9 ⟨rfl, hb⟩; have B9 := Lib.hid (B3.out.trans (hb.mono B3.out.size)); clear hb)
      | fail)
    · have hn9 : e.n9 ≤ 40 := fe9 (HL.out (by first | rfl | trivial))
      have hds : (fromD E n e).length = e.n9 := HPl.out.1.trans HLp.out
      have HND := Lib.hid (show (es.map kyE).Nodup by rw [es_kyE HE6.out]; exact from_nodup E n e)
      have HEl := Lib.hid (show es.length = e.n9 by rw [len_map HE6.out]; exact hds)
      have HSt := Lib.hid (show Q.M.st (idsO e.n9 (fun j => es.getD j ev0)) = Q.M.st e.p9 by
        refine Q.M.st_congr fun z => ?_
        rw [← hds, idsO_es HE6.out]
        exact HPl.out.2 z)
      rw [hds] at G6 ⊢
      clear hds HPl HE6 HGr HLo HL HQ C19 R3 R4 R5 BA XA X5 B3 B4 B5 F3 F4 F5 HLp
      have HIl := Lib.hid (idsO_len e.n9 (fun j => es.getD j ev0))
      have C26 := Lib.hid (fun u (hb : Below w6.heap.size w6 u) => ids26 A6 e.n9 c6 (fun j => es.getD j ev0) u (G6.out.below hb) (by omega))
      have HS1 := Lib.hid (fun A c u (h : Q.Ints u A (idsO e.n9 (fun j => es.getD j ev0)).length c (idsO e.n9 (fun j => es.getD j ev0))) => Q.rsorted_any A _ c _ u h (by rw [HIl.out]; omega))
      have HS2 := Lib.hid (fun u (hb : Below w6.heap.size w6 u) => Q.rsorted_any e.a9 e.n9 e.c9 e.p9 u (its_ints (H9.out.below (F6.out.trans (hb.mono F6.out.size))) (by omega)) (by omega))
      rw [HSt.out] at HS1
      unfold IntP at C26
      unfold Q.IntsP at HS1 HS2
      generalize Q.M.st e.p9 = L at HS1 HS2
      generalize idsO e.n9 (fun j => es.getD j ev0) = L1 at C26 HS1
      clear HSt HIl H H9 HWf
      go_wp2
      go_loopg [6, 7] e.n9 (fun gg s6 _ wr => ∃ ii : Nat, ii ≤ e.n9 ∧ e.n9 - ii ≤ gg ∧ s6 = .int .i64 ii ∧ Hid (Below w6.heap.size w6 wr))
      case atStart => exact ⟨0, Nat.zero_le _, by omega, rfl, Lib.hid (Below.refl _ _)⟩
      case round =>
        obtain ⟨ii, hii, hg, rfl, BX0⟩ := hrel
        by_cases hlt : ii < e.n9
        · have hltz : (ii : Int) < (e.n9 : Int) := by omega
          have hi0 : (0 : Int) ≤ (ii : Int) := by omega
          go_wp2
          go_loopg [7] ii (fun gg s7 WQ => ∃ kk : Nat, kk ≤ ii ∧ ii - kk ≤ gg ∧ s7 = .int .i64 kk ∧ Hid (Below w6.heap.size w6 WQ))
          case atStart => exact ⟨0, Nat.zero_le _, by omega, rfl, BX0⟩
          case round =>
            obtain ⟨kk, hkk, hg2, rfl, BX⟩ := hrel
            by_cases hl2 : kk < ii
            · have hl2z : (kk : Int) < (ii : Int) := by omega
              have hk0 : (0 : Int) ≤ (kk : Int) := by omega
              have hkn : (kk : Int) < (e.n9 : Int) := by omega
              obtain ⟨b5, o5, rfl, _⟩ := G6.out.at_ (by omega)
              have HXi := Lib.hid (show ∀ u, Below wr.heap.size wr u → u.cell? ⟨b5, o5 + ii * 29 + 3, none⟩ = some (.int .i64 (es.getD ii ev0).e3) ∧ u.cell? ⟨b5, o5 + ii * 29 + 5, none⟩ = some (.string (es.getD ii ev0).e5) from fun u hb => ⟨((G6.out.below (BX.out.trans (hb.mono BX.out.size))).parts hlt).1.c3, ((G6.out.below (BX.out.trans (hb.mono BX.out.size))).parts hlt).1.c5⟩)
              have HXk := Lib.hid (show ∀ u, Below wr.heap.size wr u → u.cell? ⟨b5, o5 + kk * 29 + 3, none⟩ = some (.int .i64 (es.getD kk ev0).e3) ∧ u.cell? ⟨b5, o5 + kk * 29 + 5, none⟩ = some (.string (es.getD kk ev0).e5) from fun u hb => ⟨((G6.out.below (BX.out.trans (hb.mono BX.out.size))).parts (show kk < e.n9 by omega)).1.c3, ((G6.out.below (BX.out.trans (hb.mono BX.out.size))).parts (show kk < e.n9 by omega)).1.c5⟩)
              have hne := es_ne HND.out hl2 (by rw [HEl.out]; exact hlt)
              generalize es.getD ii ev0 = x at HXi hne
              generalize es.getD kk ev0 = y at HXk hne
              by_cases h3 : x.e3 = y.e3
              · have z1 : (x.e3 == y.e3) = true := beq_iff_eq.2 h3
                have z2 : (x.e5.toList == y.e5.toList) = false := beq_eq_false_iff_ne.2 (fun h => hne ⟨h3, h⟩)
                clear h3 hne
                go_upto_region 10 with (fail)
                refine wp_region_held_drew (S := (fun y => Below wr.heap.size wr y)) (by kernel_rfl) ((Below.refl wr.heap.size wr).drew) (fun hH0 => ?_)
                generalize hy0 : World.drew _ = y0 at hH0 ⊢
                have RB0 : Hid (Below wr.heap.size wr y0) := Lib.hid hH0
                clear hy0
                refine wpAnyH_take (i := 0) (oi := ({ dst := some 35, op := Op.move (Operand.tmp 5), type := 44, pos := "law.go:89", after := #[], guard := none } : Oper)) (v := ?hv50) rfl (by kernel_rfl) (by kernel_rfl) (by kernel_rfl) (fun _ _ _ h => h) (Or.inl ⟨by rfl, ?hy50⟩) (by assumption) ?hr50
                case hy50 => (intro w hSw; (try dsimp only at hSw); go_simp; (try with_reducible rfl))
                try simp only [Act.put, List.setIfInBounds_toArray, List.set_cons_zero, List.set_cons_succ]
                refine wpAnyH_take (i := 1) (oi := ({ dst := some 36, op := Op.move (Operand.tmp 6), type := 3, pos := "law.go:89", after := #[], guard := none } : Oper)) (v := ?hv51) rfl (by kernel_rfl) (by kernel_rfl) (by kernel_rfl) (fun _ _ _ h => h) (Or.inl ⟨by rfl, ?hy51⟩) (by assumption) ?hr51
                case hy51 => (intro w hSw; (try dsimp only at hSw); go_simp; (try with_reducible rfl))
                try simp only [Act.put, List.setIfInBounds_toArray, List.set_cons_zero, List.set_cons_succ]
                refine wpAnyH_take (i := 2) (oi := ({ dst := some 37, op := Op.indexAddr 44 (Operand.tmp 35) (Operand.tmp 36), type := 0, pos := "law.go:89", after := #[{ on := 0, ground := Ground.data }, { on := 1, ground := Ground.data }], guard := none } : Oper)) (v := ?hv52) rfl (by kernel_rfl) (by kernel_rfl) (by kernel_rfl) (fun _ _ _ h => h) (Or.inl ⟨by rfl, ?hy52⟩) (by assumption) ?hr52
                case hy52 => (intro w hSw; (try dsimp only at hSw); go_simp; (try with_reducible rfl))
                try simp only [Act.put, List.setIfInBounds_toArray, List.set_cons_zero, List.set_cons_succ]
                refine wpAnyH_take (i := 3) (oi := ({ dst := some 38, op := Op.fieldAddr 34 (Operand.tmp 37) 3, type := 0, pos := "law.go:89", after := #[{ on := 2, ground := Ground.data }], guard := none } : Oper)) (v := ?hv53) rfl (by kernel_rfl) (by kernel_rfl) (by kernel_rfl) (fun _ _ _ h => h) (Or.inl ⟨by rfl, ?hy53⟩) (by assumption) ?hr53
                case hy53 => (intro w hSw; (try dsimp only at hSw); go_simp; (try with_reducible rfl))
                try simp only [Act.put, List.setIfInBounds_toArray, List.set_cons_zero, List.set_cons_succ]
                refine wpAnyH_take (i := 4) (oi := ({ dst := some 39, op := Op.load 22 (Operand.tmp 38), type := 22, pos := "law.go:89", after := #[{ on := 3, ground := Ground.data }], guard := none } : Oper)) (v := .int .i64 x.e3) rfl (by kernel_rfl) (by kernel_rfl) (by kernel_rfl) (fun _ _ _ h => h) (Or.inl ⟨by rfl, fun w0 hw0 => by obtain ⟨q0, q1⟩ := HXi.out w0 hw0; go_simp⟩) (by assumption) ?_
                try simp only [Act.put, List.setIfInBounds_toArray, List.set_cons_zero, List.set_cons_succ]
                refine wpAnyH_take (i := 5) (oi := ({ dst := some 40, op := Op.move (Operand.tmp 5), type := 44, pos := "law.go:89", after := #[], guard := none } : Oper)) (v := ?hv54) rfl (by kernel_rfl) (by kernel_rfl) (by kernel_rfl) (fun _ _ _ h => h) (Or.inl ⟨by rfl, ?hy54⟩) (by assumption) ?hr54
                case hy54 => (intro w hSw; (try dsimp only at hSw); go_simp; (try with_reducible rfl))
                try simp only [Act.put, List.setIfInBounds_toArray, List.set_cons_zero, List.set_cons_succ]
                refine wpAnyH_take (i := 6) (oi := ({ dst := some 41, op := Op.move (Operand.tmp 7), type := 3, pos := "law.go:89", after := #[], guard := none } : Oper)) (v := ?hv55) rfl (by kernel_rfl) (by kernel_rfl) (by kernel_rfl) (fun _ _ _ h => h) (Or.inl ⟨by rfl, ?hy55⟩) (by assumption) ?hr55
                case hy55 => (intro w hSw; (try dsimp only at hSw); go_simp; (try with_reducible rfl))
                try simp only [Act.put, List.setIfInBounds_toArray, List.set_cons_zero, List.set_cons_succ]
                refine wpAnyH_take (i := 7) (oi := ({ dst := some 42, op := Op.indexAddr 44 (Operand.tmp 40) (Operand.tmp 41), type := 0, pos := "law.go:89", after := #[{ on := 5, ground := Ground.data }, { on := 6, ground := Ground.data }], guard := none } : Oper)) (v := ?hv56) rfl (by kernel_rfl) (by kernel_rfl) (by kernel_rfl) (fun _ _ _ h => h) (Or.inl ⟨by rfl, ?hy56⟩) (by assumption) ?hr56
                case hy56 => (intro w hSw; (try dsimp only at hSw); go_simp; (try with_reducible rfl))
                try simp only [Act.put, List.setIfInBounds_toArray, List.set_cons_zero, List.set_cons_succ]
                refine wpAnyH_take (i := 8) (oi := ({ dst := some 43, op := Op.fieldAddr 34 (Operand.tmp 42) 3, type := 0, pos := "law.go:89", after := #[{ on := 7, ground := Ground.data }], guard := none } : Oper)) (v := ?hv57) rfl (by kernel_rfl) (by kernel_rfl) (by kernel_rfl) (fun _ _ _ h => h) (Or.inl ⟨by rfl, ?hy57⟩) (by assumption) ?hr57
                case hy57 => (intro w hSw; (try dsimp only at hSw); go_simp; (try with_reducible rfl))
                try simp only [Act.put, List.setIfInBounds_toArray, List.set_cons_zero, List.set_cons_succ]
                refine wpAnyH_take (i := 9) (oi := ({ dst := some 44, op := Op.load 22 (Operand.tmp 43), type := 22, pos := "law.go:89", after := #[{ on := 8, ground := Ground.data }], guard := none } : Oper)) (v := .int .i64 y.e3) rfl (by kernel_rfl) (by kernel_rfl) (by kernel_rfl) (fun _ _ _ h => h) (Or.inl ⟨by rfl, fun w0 hw0 => by obtain ⟨q0, q1⟩ := HXk.out w0 hw0; go_simp⟩) (by assumption) ?_
                try simp only [Act.put, List.setIfInBounds_toArray, List.set_cons_zero, List.set_cons_succ]
                refine wpAnyH_take (i := 10) (oi := ({ dst := some 45, op := Op.binOp BinOp.eql 22 (Operand.tmp 39) (Operand.tmp 44) 22, type := 4, pos := "law.go:89", after := #[{ on := 4, ground := Ground.data }, { on := 9, ground := Ground.data }], guard := none } : Oper)) (v := ?hv58) rfl (by kernel_rfl) (by kernel_rfl) (by kernel_rfl) (fun _ _ _ h => h) (Or.inl ⟨by rfl, ?hy58⟩) (by assumption) ?hr58
                case hy58 => (intro w hSw; (try dsimp only at hSw); go_simp; (try with_reducible rfl))
                try simp only [Act.put, List.setIfInBounds_toArray, List.set_cons_zero, List.set_cons_succ]
                refine wpAnyH_take (i := 11) (oi := ({ dst := some 46, op := Op.move (Operand.tmp 45), type := 4, pos := "law.go:89", after := #[{ on := 10, ground := Ground.data }], guard := none } : Oper)) (v := ?hv59) rfl (by kernel_rfl) (by kernel_rfl) (by kernel_rfl) (fun _ _ _ h => h) (Or.inl ⟨by rfl, ?hy59⟩) (by assumption) ?hr59
                case hy59 => (intro w hSw; (try dsimp only at hSw); go_simp; (try with_reducible rfl))
                try simp only [Act.put, List.setIfInBounds_toArray, List.set_cons_zero, List.set_cons_succ]
                refine wpAnyH_take (i := 12) (oi := ({ dst := some 47, op := Op.move (Operand.tmp 5), type := 44, pos := "law.go:89", after := #[{ on := 11, ground := Ground.guard }], guard := some (11, true) } : Oper)) (v := ?hv60) rfl (by kernel_rfl) (by kernel_rfl) (by kernel_rfl) (fun _ _ _ h => h) (Or.inl ⟨by rfl, ?hy60⟩) (by assumption) ?hr60
                case hy60 => (intro w hSw; (try dsimp only at hSw); go_simp; (try with_reducible rfl))
                try simp only [Act.put, List.setIfInBounds_toArray, List.set_cons_zero, List.set_cons_succ]
                refine wpAnyH_take (i := 13) (oi := ({ dst := some 48, op := Op.move (Operand.tmp 6), type := 3, pos := "law.go:89", after := #[{ on := 11, ground := Ground.guard }], guard := some (11, true) } : Oper)) (v := ?hv61) rfl (by kernel_rfl) (by kernel_rfl) (by kernel_rfl) (fun _ _ _ h => h) (Or.inl ⟨by rfl, ?hy61⟩) (by assumption) ?hr61
                case hy61 => (intro w hSw; (try dsimp only at hSw); go_simp; (try with_reducible rfl))
                try simp only [Act.put, List.setIfInBounds_toArray, List.set_cons_zero, List.set_cons_succ]
                refine wpAnyH_take (i := 14) (oi := ({ dst := some 49, op := Op.indexAddr 44 (Operand.tmp 47) (Operand.tmp 48), type := 0, pos := "law.go:89", after := #[{ on := 12, ground := Ground.data }, { on := 13, ground := Ground.data }, { on := 11, ground := Ground.guard }], guard := some (11, true) } : Oper)) (v := ?hv62) rfl (by kernel_rfl) (by kernel_rfl) (by kernel_rfl) (fun _ _ _ h => h) (Or.inl ⟨by rfl, ?hy62⟩) (by assumption) ?hr62
                case hy62 => (intro w hSw; (try dsimp only at hSw); go_simp; (try with_reducible rfl))
                try simp only [Act.put, List.setIfInBounds_toArray, List.set_cons_zero, List.set_cons_succ]
                refine wpAnyH_take (i := 15) (oi := ({ dst := some 50, op := Op.fieldAddr 34 (Operand.tmp 49) 5, type := 0, pos := "law.go:89", after := #[{ on := 14, ground := Ground.data }, { on := 11, ground := Ground.guard }], guard := some (11, true) } : Oper)) (v := ?hv63) rfl (by kernel_rfl) (by kernel_rfl) (by kernel_rfl) (fun _ _ _ h => h) (Or.inl ⟨by rfl, ?hy63⟩) (by assumption) ?hr63
                case hy63 => (intro w hSw; (try dsimp only at hSw); go_simp; (try with_reducible rfl))
                try simp only [Act.put, List.setIfInBounds_toArray, List.set_cons_zero, List.set_cons_succ]
                refine wpAnyH_take (i := 16) (oi := ({ dst := some 51, op := Op.load 9 (Operand.tmp 50), type := 9, pos := "law.go:89", after := #[{ on := 15, ground := Ground.data }, { on := 11, ground := Ground.guard }], guard := some (11, true) } : Oper)) (v := .string x.e5) rfl (by kernel_rfl) (by kernel_rfl) (by kernel_rfl) (fun _ _ _ h => h) (Or.inl ⟨by rfl, fun w0 hw0 => by obtain ⟨q0, q1⟩ := HXi.out w0 hw0; go_simp⟩) (by assumption) ?_
                try simp only [Act.put, List.setIfInBounds_toArray, List.set_cons_zero, List.set_cons_succ]
                refine wpAnyH_take (i := 17) (oi := ({ dst := some 52, op := Op.move (Operand.tmp 5), type := 44, pos := "law.go:89", after := #[{ on := 11, ground := Ground.guard }], guard := some (11, true) } : Oper)) (v := ?hv64) rfl (by kernel_rfl) (by kernel_rfl) (by kernel_rfl) (fun _ _ _ h => h) (Or.inl ⟨by rfl, ?hy64⟩) (by assumption) ?hr64
                case hy64 => (intro w hSw; (try dsimp only at hSw); go_simp; (try with_reducible rfl))
                try simp only [Act.put, List.setIfInBounds_toArray, List.set_cons_zero, List.set_cons_succ]
                refine wpAnyH_take (i := 18) (oi := ({ dst := some 53, op := Op.move (Operand.tmp 7), type := 3, pos := "law.go:89", after := #[{ on := 11, ground := Ground.guard }], guard := some (11, true) } : Oper)) (v := ?hv65) rfl (by kernel_rfl) (by kernel_rfl) (by kernel_rfl) (fun _ _ _ h => h) (Or.inl ⟨by rfl, ?hy65⟩) (by assumption) ?hr65
                case hy65 => (intro w hSw; (try dsimp only at hSw); go_simp; (try with_reducible rfl))
                try simp only [Act.put, List.setIfInBounds_toArray, List.set_cons_zero, List.set_cons_succ]
                refine wpAnyH_take (i := 19) (oi := ({ dst := some 54, op := Op.indexAddr 44 (Operand.tmp 52) (Operand.tmp 53), type := 0, pos := "law.go:89", after := #[{ on := 17, ground := Ground.data }, { on := 18, ground := Ground.data }, { on := 11, ground := Ground.guard }], guard := some (11, true) } : Oper)) (v := ?hv66) rfl (by kernel_rfl) (by kernel_rfl) (by kernel_rfl) (fun _ _ _ h => h) (Or.inl ⟨by rfl, ?hy66⟩) (by assumption) ?hr66
                case hy66 => (intro w hSw; (try dsimp only at hSw); go_simp; (try with_reducible rfl))
                try simp only [Act.put, List.setIfInBounds_toArray, List.set_cons_zero, List.set_cons_succ]
                refine wpAnyH_take (i := 20) (oi := ({ dst := some 55, op := Op.fieldAddr 34 (Operand.tmp 54) 5, type := 0, pos := "law.go:89", after := #[{ on := 19, ground := Ground.data }, { on := 11, ground := Ground.guard }], guard := some (11, true) } : Oper)) (v := ?hv67) rfl (by kernel_rfl) (by kernel_rfl) (by kernel_rfl) (fun _ _ _ h => h) (Or.inl ⟨by rfl, ?hy67⟩) (by assumption) ?hr67
                case hy67 => (intro w hSw; (try dsimp only at hSw); go_simp; (try with_reducible rfl))
                try simp only [Act.put, List.setIfInBounds_toArray, List.set_cons_zero, List.set_cons_succ]
                refine wpAnyH_take (i := 21) (oi := ({ dst := some 56, op := Op.load 9 (Operand.tmp 55), type := 9, pos := "law.go:89", after := #[{ on := 20, ground := Ground.data }, { on := 11, ground := Ground.guard }], guard := some (11, true) } : Oper)) (v := .string y.e5) rfl (by kernel_rfl) (by kernel_rfl) (by kernel_rfl) (fun _ _ _ h => h) (Or.inl ⟨by rfl, fun w0 hw0 => by obtain ⟨q0, q1⟩ := HXk.out w0 hw0; go_simp⟩) (by assumption) ?_
                try simp only [Act.put, List.setIfInBounds_toArray, List.set_cons_zero, List.set_cons_succ]
                refine wpAnyH_take (i := 22) (oi := ({ dst := some 57, op := Op.binOp BinOp.eql 9 (Operand.tmp 51) (Operand.tmp 56) 9, type := 4, pos := "law.go:89", after := #[{ on := 16, ground := Ground.data }, { on := 21, ground := Ground.data }, { on := 11, ground := Ground.guard }], guard := some (11, true) } : Oper)) (v := ?hv68) rfl (by kernel_rfl) (by kernel_rfl) (by kernel_rfl) (fun _ _ _ h => h) (Or.inl ⟨by rfl, ?hy68⟩) (by assumption) ?hr68
                case hy68 => (intro w hSw; (try dsimp only at hSw); go_simp; (try with_reducible rfl))
                try simp only [Act.put, List.setIfInBounds_toArray, List.set_cons_zero, List.set_cons_succ]
                refine wpAnyH_take (i := 23) (oi := ({ dst := some 58, op := Op.pick (Operand.tmp 46) (Operand.tmp 57) (Operand.const (Value.bool false)), type := 4, pos := "law.go:89", after := #[{ on := 11, ground := Ground.data }, { on := 22, ground := Ground.data }], guard := none } : Oper)) (v := ?hv69) rfl (by kernel_rfl) (by kernel_rfl) (by kernel_rfl) (fun _ _ _ h => h) (Or.inl ⟨by rfl, ?hy69⟩) (by assumption) ?hr69
                case hy69 => (intro w hSw; (try dsimp only at hSw); go_simp; (try with_reducible rfl))
                try simp only [Act.put, List.setIfInBounds_toArray, List.set_cons_zero, List.set_cons_succ]
                refine wpAnyH_done (by kernel_rfl) ?_ _
                go_wp2
                go_roundg (ii - (kk + 1))
                case measure => omega
                case rel => exact ⟨kk + 1, by omega, by omega, by go_num, Lib.hid (BX.out.trans (RB0.out.mono BX.out.size))⟩
              · have z1 : (x.e3 == y.e3) = false := beq_eq_false_iff_ne.2 h3
                clear h3 hne
                go_upto_region 10 with (fail)
                refine wp_region_held_drew (S := (fun y => Below wr.heap.size wr y)) (by kernel_rfl) ((Below.refl wr.heap.size wr).drew) (fun hH0 => ?_)
                generalize hy0 : World.drew _ = y0 at hH0 ⊢
                have RB0 : Hid (Below wr.heap.size wr y0) := Lib.hid hH0
                clear hy0
                refine wpAnyH_take (i := 0) (oi := ({ dst := some 35, op := Op.move (Operand.tmp 5), type := 44, pos := "law.go:89", after := #[], guard := none } : Oper)) (v := ?hv70) rfl (by kernel_rfl) (by kernel_rfl) (by kernel_rfl) (fun _ _ _ h => h) (Or.inl ⟨by rfl, ?hy70⟩) (by assumption) ?hr70
                case hy70 => (intro w hSw; (try dsimp only at hSw); go_simp; (try with_reducible rfl))
                try simp only [Act.put, List.setIfInBounds_toArray, List.set_cons_zero, List.set_cons_succ]
                refine wpAnyH_take (i := 1) (oi := ({ dst := some 36, op := Op.move (Operand.tmp 6), type := 3, pos := "law.go:89", after := #[], guard := none } : Oper)) (v := ?hv71) rfl (by kernel_rfl) (by kernel_rfl) (by kernel_rfl) (fun _ _ _ h => h) (Or.inl ⟨by rfl, ?hy71⟩) (by assumption) ?hr71
                case hy71 => (intro w hSw; (try dsimp only at hSw); go_simp; (try with_reducible rfl))
                try simp only [Act.put, List.setIfInBounds_toArray, List.set_cons_zero, List.set_cons_succ]
                refine wpAnyH_take (i := 2) (oi := ({ dst := some 37, op := Op.indexAddr 44 (Operand.tmp 35) (Operand.tmp 36), type := 0, pos := "law.go:89", after := #[{ on := 0, ground := Ground.data }, { on := 1, ground := Ground.data }], guard := none } : Oper)) (v := ?hv72) rfl (by kernel_rfl) (by kernel_rfl) (by kernel_rfl) (fun _ _ _ h => h) (Or.inl ⟨by rfl, ?hy72⟩) (by assumption) ?hr72
                case hy72 => (intro w hSw; (try dsimp only at hSw); go_simp; (try with_reducible rfl))
                try simp only [Act.put, List.setIfInBounds_toArray, List.set_cons_zero, List.set_cons_succ]
                refine wpAnyH_take (i := 3) (oi := ({ dst := some 38, op := Op.fieldAddr 34 (Operand.tmp 37) 3, type := 0, pos := "law.go:89", after := #[{ on := 2, ground := Ground.data }], guard := none } : Oper)) (v := ?hv73) rfl (by kernel_rfl) (by kernel_rfl) (by kernel_rfl) (fun _ _ _ h => h) (Or.inl ⟨by rfl, ?hy73⟩) (by assumption) ?hr73
                case hy73 => (intro w hSw; (try dsimp only at hSw); go_simp; (try with_reducible rfl))
                try simp only [Act.put, List.setIfInBounds_toArray, List.set_cons_zero, List.set_cons_succ]
                refine wpAnyH_take (i := 4) (oi := ({ dst := some 39, op := Op.load 22 (Operand.tmp 38), type := 22, pos := "law.go:89", after := #[{ on := 3, ground := Ground.data }], guard := none } : Oper)) (v := .int .i64 x.e3) rfl (by kernel_rfl) (by kernel_rfl) (by kernel_rfl) (fun _ _ _ h => h) (Or.inl ⟨by rfl, fun w0 hw0 => by obtain ⟨q0, q1⟩ := HXi.out w0 hw0; go_simp⟩) (by assumption) ?_
                try simp only [Act.put, List.setIfInBounds_toArray, List.set_cons_zero, List.set_cons_succ]
                refine wpAnyH_take (i := 5) (oi := ({ dst := some 40, op := Op.move (Operand.tmp 5), type := 44, pos := "law.go:89", after := #[], guard := none } : Oper)) (v := ?hv74) rfl (by kernel_rfl) (by kernel_rfl) (by kernel_rfl) (fun _ _ _ h => h) (Or.inl ⟨by rfl, ?hy74⟩) (by assumption) ?hr74
                case hy74 => (intro w hSw; (try dsimp only at hSw); go_simp; (try with_reducible rfl))
                try simp only [Act.put, List.setIfInBounds_toArray, List.set_cons_zero, List.set_cons_succ]
                refine wpAnyH_take (i := 6) (oi := ({ dst := some 41, op := Op.move (Operand.tmp 7), type := 3, pos := "law.go:89", after := #[], guard := none } : Oper)) (v := ?hv75) rfl (by kernel_rfl) (by kernel_rfl) (by kernel_rfl) (fun _ _ _ h => h) (Or.inl ⟨by rfl, ?hy75⟩) (by assumption) ?hr75
                case hy75 => (intro w hSw; (try dsimp only at hSw); go_simp; (try with_reducible rfl))
                try simp only [Act.put, List.setIfInBounds_toArray, List.set_cons_zero, List.set_cons_succ]
                refine wpAnyH_take (i := 7) (oi := ({ dst := some 42, op := Op.indexAddr 44 (Operand.tmp 40) (Operand.tmp 41), type := 0, pos := "law.go:89", after := #[{ on := 5, ground := Ground.data }, { on := 6, ground := Ground.data }], guard := none } : Oper)) (v := ?hv76) rfl (by kernel_rfl) (by kernel_rfl) (by kernel_rfl) (fun _ _ _ h => h) (Or.inl ⟨by rfl, ?hy76⟩) (by assumption) ?hr76
                case hy76 => (intro w hSw; (try dsimp only at hSw); go_simp; (try with_reducible rfl))
                try simp only [Act.put, List.setIfInBounds_toArray, List.set_cons_zero, List.set_cons_succ]
                refine wpAnyH_take (i := 8) (oi := ({ dst := some 43, op := Op.fieldAddr 34 (Operand.tmp 42) 3, type := 0, pos := "law.go:89", after := #[{ on := 7, ground := Ground.data }], guard := none } : Oper)) (v := ?hv77) rfl (by kernel_rfl) (by kernel_rfl) (by kernel_rfl) (fun _ _ _ h => h) (Or.inl ⟨by rfl, ?hy77⟩) (by assumption) ?hr77
                case hy77 => (intro w hSw; (try dsimp only at hSw); go_simp; (try with_reducible rfl))
                try simp only [Act.put, List.setIfInBounds_toArray, List.set_cons_zero, List.set_cons_succ]
                refine wpAnyH_take (i := 9) (oi := ({ dst := some 44, op := Op.load 22 (Operand.tmp 43), type := 22, pos := "law.go:89", after := #[{ on := 8, ground := Ground.data }], guard := none } : Oper)) (v := .int .i64 y.e3) rfl (by kernel_rfl) (by kernel_rfl) (by kernel_rfl) (fun _ _ _ h => h) (Or.inl ⟨by rfl, fun w0 hw0 => by obtain ⟨q0, q1⟩ := HXk.out w0 hw0; go_simp⟩) (by assumption) ?_
                try simp only [Act.put, List.setIfInBounds_toArray, List.set_cons_zero, List.set_cons_succ]
                refine wpAnyH_take (i := 10) (oi := ({ dst := some 45, op := Op.binOp BinOp.eql 22 (Operand.tmp 39) (Operand.tmp 44) 22, type := 4, pos := "law.go:89", after := #[{ on := 4, ground := Ground.data }, { on := 9, ground := Ground.data }], guard := none } : Oper)) (v := ?hv78) rfl (by kernel_rfl) (by kernel_rfl) (by kernel_rfl) (fun _ _ _ h => h) (Or.inl ⟨by rfl, ?hy78⟩) (by assumption) ?hr78
                case hy78 => (intro w hSw; (try dsimp only at hSw); go_simp; (try with_reducible rfl))
                try simp only [Act.put, List.setIfInBounds_toArray, List.set_cons_zero, List.set_cons_succ]
                refine wpAnyH_take (i := 11) (oi := ({ dst := some 46, op := Op.move (Operand.tmp 45), type := 4, pos := "law.go:89", after := #[{ on := 10, ground := Ground.data }], guard := none } : Oper)) (v := ?hv79) rfl (by kernel_rfl) (by kernel_rfl) (by kernel_rfl) (fun _ _ _ h => h) (Or.inl ⟨by rfl, ?hy79⟩) (by assumption) ?hr79
                case hy79 => (intro w hSw; (try dsimp only at hSw); go_simp; (try with_reducible rfl))
                try simp only [Act.put, List.setIfInBounds_toArray, List.set_cons_zero, List.set_cons_succ]
                refine wpAnyH_take (i := 12) (oi := ({ dst := some 47, op := Op.move (Operand.tmp 5), type := 44, pos := "law.go:89", after := #[{ on := 11, ground := Ground.guard }], guard := some (11, true) } : Oper)) (v := undef) rfl (by kernel_rfl) (by kernel_rfl) (by kernel_rfl) (fun _ _ _ h => h) (Or.inr ⟨by rfl, rfl⟩) (by assumption) ?_
                try simp only [Act.put, List.setIfInBounds_toArray, List.set_cons_zero, List.set_cons_succ]
                refine wpAnyH_take (i := 13) (oi := ({ dst := some 48, op := Op.move (Operand.tmp 6), type := 3, pos := "law.go:89", after := #[{ on := 11, ground := Ground.guard }], guard := some (11, true) } : Oper)) (v := undef) rfl (by kernel_rfl) (by kernel_rfl) (by kernel_rfl) (fun _ _ _ h => h) (Or.inr ⟨by rfl, rfl⟩) (by assumption) ?_
                try simp only [Act.put, List.setIfInBounds_toArray, List.set_cons_zero, List.set_cons_succ]
                refine wpAnyH_take (i := 14) (oi := ({ dst := some 49, op := Op.indexAddr 44 (Operand.tmp 47) (Operand.tmp 48), type := 0, pos := "law.go:89", after := #[{ on := 12, ground := Ground.data }, { on := 13, ground := Ground.data }, { on := 11, ground := Ground.guard }], guard := some (11, true) } : Oper)) (v := undef) rfl (by kernel_rfl) (by kernel_rfl) (by kernel_rfl) (fun _ _ _ h => h) (Or.inr ⟨by rfl, rfl⟩) (by assumption) ?_
                try simp only [Act.put, List.setIfInBounds_toArray, List.set_cons_zero, List.set_cons_succ]
                refine wpAnyH_take (i := 15) (oi := ({ dst := some 50, op := Op.fieldAddr 34 (Operand.tmp 49) 5, type := 0, pos := "law.go:89", after := #[{ on := 14, ground := Ground.data }, { on := 11, ground := Ground.guard }], guard := some (11, true) } : Oper)) (v := undef) rfl (by kernel_rfl) (by kernel_rfl) (by kernel_rfl) (fun _ _ _ h => h) (Or.inr ⟨by rfl, rfl⟩) (by assumption) ?_
                try simp only [Act.put, List.setIfInBounds_toArray, List.set_cons_zero, List.set_cons_succ]
                refine wpAnyH_take (i := 16) (oi := ({ dst := some 51, op := Op.load 9 (Operand.tmp 50), type := 9, pos := "law.go:89", after := #[{ on := 15, ground := Ground.data }, { on := 11, ground := Ground.guard }], guard := some (11, true) } : Oper)) (v := undef) rfl (by kernel_rfl) (by kernel_rfl) (by kernel_rfl) (fun _ _ _ h => h) (Or.inr ⟨by rfl, rfl⟩) (by assumption) ?_
                try simp only [Act.put, List.setIfInBounds_toArray, List.set_cons_zero, List.set_cons_succ]
                refine wpAnyH_take (i := 17) (oi := ({ dst := some 52, op := Op.move (Operand.tmp 5), type := 44, pos := "law.go:89", after := #[{ on := 11, ground := Ground.guard }], guard := some (11, true) } : Oper)) (v := undef) rfl (by kernel_rfl) (by kernel_rfl) (by kernel_rfl) (fun _ _ _ h => h) (Or.inr ⟨by rfl, rfl⟩) (by assumption) ?_
                try simp only [Act.put, List.setIfInBounds_toArray, List.set_cons_zero, List.set_cons_succ]
                refine wpAnyH_take (i := 18) (oi := ({ dst := some 53, op := Op.move (Operand.tmp 7), type := 3, pos := "law.go:89", after := #[{ on := 11, ground := Ground.guard }], guard := some (11, true) } : Oper)) (v := undef) rfl (by kernel_rfl) (by kernel_rfl) (by kernel_rfl) (fun _ _ _ h => h) (Or.inr ⟨by rfl, rfl⟩) (by assumption) ?_
                try simp only [Act.put, List.setIfInBounds_toArray, List.set_cons_zero, List.set_cons_succ]
                refine wpAnyH_take (i := 19) (oi := ({ dst := some 54, op := Op.indexAddr 44 (Operand.tmp 52) (Operand.tmp 53), type := 0, pos := "law.go:89", after := #[{ on := 17, ground := Ground.data }, { on := 18, ground := Ground.data }, { on := 11, ground := Ground.guard }], guard := some (11, true) } : Oper)) (v := undef) rfl (by kernel_rfl) (by kernel_rfl) (by kernel_rfl) (fun _ _ _ h => h) (Or.inr ⟨by rfl, rfl⟩) (by assumption) ?_
                try simp only [Act.put, List.setIfInBounds_toArray, List.set_cons_zero, List.set_cons_succ]
                refine wpAnyH_take (i := 20) (oi := ({ dst := some 55, op := Op.fieldAddr 34 (Operand.tmp 54) 5, type := 0, pos := "law.go:89", after := #[{ on := 19, ground := Ground.data }, { on := 11, ground := Ground.guard }], guard := some (11, true) } : Oper)) (v := undef) rfl (by kernel_rfl) (by kernel_rfl) (by kernel_rfl) (fun _ _ _ h => h) (Or.inr ⟨by rfl, rfl⟩) (by assumption) ?_
                try simp only [Act.put, List.setIfInBounds_toArray, List.set_cons_zero, List.set_cons_succ]
                refine wpAnyH_take (i := 21) (oi := ({ dst := some 56, op := Op.load 9 (Operand.tmp 55), type := 9, pos := "law.go:89", after := #[{ on := 20, ground := Ground.data }, { on := 11, ground := Ground.guard }], guard := some (11, true) } : Oper)) (v := undef) rfl (by kernel_rfl) (by kernel_rfl) (by kernel_rfl) (fun _ _ _ h => h) (Or.inr ⟨by rfl, rfl⟩) (by assumption) ?_
                try simp only [Act.put, List.setIfInBounds_toArray, List.set_cons_zero, List.set_cons_succ]
                refine wpAnyH_take (i := 22) (oi := ({ dst := some 57, op := Op.binOp BinOp.eql 9 (Operand.tmp 51) (Operand.tmp 56) 9, type := 4, pos := "law.go:89", after := #[{ on := 16, ground := Ground.data }, { on := 21, ground := Ground.data }, { on := 11, ground := Ground.guard }], guard := some (11, true) } : Oper)) (v := undef) rfl (by kernel_rfl) (by kernel_rfl) (by kernel_rfl) (fun _ _ _ h => h) (Or.inr ⟨by rfl, rfl⟩) (by assumption) ?_
                try simp only [Act.put, List.setIfInBounds_toArray, List.set_cons_zero, List.set_cons_succ]
                refine wpAnyH_take (i := 23) (oi := ({ dst := some 58, op := Op.pick (Operand.tmp 46) (Operand.tmp 57) (Operand.const (Value.bool false)), type := 4, pos := "law.go:89", after := #[{ on := 11, ground := Ground.data }, { on := 22, ground := Ground.data }], guard := none } : Oper)) (v := ?hv80) rfl (by kernel_rfl) (by kernel_rfl) (by kernel_rfl) (fun _ _ _ h => h) (Or.inl ⟨by rfl, ?hy80⟩) (by assumption) ?hr80
                case hy80 => (intro w hSw; (try dsimp only at hSw); go_simp; (try with_reducible rfl))
                try simp only [Act.put, List.setIfInBounds_toArray, List.set_cons_zero, List.set_cons_succ]
                refine wpAnyH_done (by kernel_rfl) ?_ _
                go_wp2
                go_roundg (ii - (kk + 1))
                case measure => omega
                case rel => exact ⟨kk + 1, by omega, by omega, by go_num, Lib.hid (BX.out.trans (RB0.out.mono BX.out.size))⟩
            · have hl2z : ¬ (kk : Int) < (ii : Int) := by omega
              go_wp2
              go_roundg (e.n9 - (ii + 1))
              case measure => omega
              case rel => exact ⟨ii + 1, by omega, by omega, by go_num, BX⟩
        · have hltz : ¬ (ii : Int) < (e.n9 : Int) := by omega
          have XR := Lib.hid (X6.out.below BX0.out)
          have BW := Lib.hid (B6.out.trans (BX0.out.mono B6.out.size))
          have C26 := Lib.hid (fun u (hb : Below wr.heap.size wr u) => C26.out u (BX0.out.trans (hb.mono BX0.out.size)))
          have HS2 := Lib.hid (fun u (hb : Below wr.heap.size wr u) => HS2.out u (BX0.out.trans (hb.mono BX0.out.size)))
          clear hlt hg hii HND HEl
          go_upto_region 12 with (fail)
          refine wp_region_held_drew (S := (fun y => Below wr.heap.size wr y)) (by kernel_rfl) ((Below.refl wr.heap.size wr).drew) (fun hH0 => ?_)
          generalize hy0 : World.drew _ = y0 at hH0 ⊢
          have RB0 : Hid (Below wr.heap.size wr y0) := Lib.hid hH0
          clear hy0
          refine wpAnyH_take (i := 0) (oi := ({ dst := some 59, op := Op.move (Operand.tmp 5), type := 44, pos := "law.go:94", after := #[], guard := none } : Oper)) (v := ?hv81) rfl (by kernel_rfl) (by kernel_rfl) (by kernel_rfl) (fun _ _ _ h => h) (Or.inl ⟨by rfl, ?hy81⟩) (by assumption) ?hr81
          case hy81 => (intro w hSw; (try dsimp only at hSw); go_simp; (try with_reducible rfl))
          try simp only [Act.put, List.setIfInBounds_toArray, List.set_cons_zero, List.set_cons_succ]
          refine wpAnyH_take (i := 1) (oi := ({ dst := some 60, op := Op.call { callee := Callee.builtin Builtin.len, args := #[Operand.tmp 59], argTypes := #[44] }, type := 3, pos := "law.go:94", after := #[{ on := 0, ground := Ground.data }], guard := none } : Oper)) (v := ?hv82) rfl (by kernel_rfl) (by kernel_rfl) (by kernel_rfl) (fun _ _ _ h => h) (Or.inl ⟨by rfl, ?hy82⟩) (by assumption) ?hr82
          case hy82 => (intro w hSw; (try dsimp only at hSw); go_simp; (try with_reducible rfl))
          try simp only [Act.put, List.setIfInBounds_toArray, List.set_cons_zero, List.set_cons_succ]
          refine wpAnyH_take (i := 2) (oi := ({ dst := some 61, op := Op.fieldAddr 34 (Operand.tmp 3) 9, type := 0, pos := "law.go:94", after := #[], guard := none } : Oper)) (v := ?hv83) rfl (by kernel_rfl) (by kernel_rfl) (by kernel_rfl) (fun _ _ _ h => h) (Or.inl ⟨by rfl, ?hy83⟩) (by assumption) ?hr83
          case hy83 => (intro w hSw; (try dsimp only at hSw); go_simp; (try with_reducible rfl))
          try simp only [Act.put, List.setIfInBounds_toArray, List.set_cons_zero, List.set_cons_succ]
          refine wpAnyH_take (i := 3) (oi := ({ dst := some 62, op := Op.load 23 (Operand.tmp 61), type := 23, pos := "law.go:94", after := #[{ on := 2, ground := Ground.data }], guard := none } : Oper)) (v := .slice e.a9 e.n9 e.c9) rfl (by kernel_rfl) (by kernel_rfl) (by kernel_rfl) (fun _ _ _ h => h) (Or.inl ⟨by rfl, fun w0 hw0 => by have q0 := (XR.out.below hw0).cell (i := 9) rfl; go_simp⟩) (by assumption) ?_
          try simp only [Act.put, List.setIfInBounds_toArray, List.set_cons_zero, List.set_cons_succ]
          refine wpAnyH_take (i := 4) (oi := ({ dst := some 63, op := Op.call { callee := Callee.builtin Builtin.len, args := #[Operand.tmp 62], argTypes := #[23] }, type := 3, pos := "law.go:94", after := #[{ on := 3, ground := Ground.data }], guard := none } : Oper)) (v := ?hv84) rfl (by kernel_rfl) (by kernel_rfl) (by kernel_rfl) (fun _ _ _ h => h) (Or.inl ⟨by rfl, ?hy84⟩) (by assumption) ?hr84
          case hy84 => (intro w hSw; (try dsimp only at hSw); go_simp; (try with_reducible rfl))
          try simp only [Act.put, List.setIfInBounds_toArray, List.set_cons_zero, List.set_cons_succ]
          refine wpAnyH_take (i := 5) (oi := ({ dst := some 64, op := Op.binOp BinOp.eql 3 (Operand.tmp 60) (Operand.tmp 63) 3, type := 4, pos := "law.go:94", after := #[{ on := 1, ground := Ground.data }, { on := 4, ground := Ground.data }], guard := none } : Oper)) (v := ?hv85) rfl (by kernel_rfl) (by kernel_rfl) (by kernel_rfl) (fun _ _ _ h => h) (Or.inl ⟨by rfl, ?hy85⟩) (by assumption) ?hr85
          case hy85 => (intro w hSw; (try dsimp only at hSw); go_simp; (try with_reducible rfl))
          try simp only [Act.put, List.setIfInBounds_toArray, List.set_cons_zero, List.set_cons_succ]
          refine wpAnyH_take (i := 6) (oi := ({ dst := some 65, op := Op.move (Operand.tmp 64), type := 4, pos := "law.go:94", after := #[{ on := 5, ground := Ground.data }], guard := none } : Oper)) (v := ?hv86) rfl (by kernel_rfl) (by kernel_rfl) (by kernel_rfl) (fun _ _ _ h => h) (Or.inl ⟨by rfl, ?hy86⟩) (by assumption) ?hr86
          case hy86 => (intro w hSw; (try dsimp only at hSw); go_simp; (try with_reducible rfl))
          try simp only [Act.put, List.setIfInBounds_toArray, List.set_cons_zero, List.set_cons_succ]
          refine wpAnyH_take (i := 7) (oi := ({ dst := some 66, op := Op.move (Operand.tmp 5), type := 44, pos := "law.go:94", after := #[{ on := 6, ground := Ground.guard }], guard := some (6, true) } : Oper)) (v := ?hv87) rfl (by kernel_rfl) (by kernel_rfl) (by kernel_rfl) (fun _ _ _ h => h) (Or.inl ⟨by rfl, ?hy87⟩) (by assumption) ?hr87
          case hy87 => (intro w hSw; (try dsimp only at hSw); go_simp; (try with_reducible rfl))
          try simp only [Act.put, List.setIfInBounds_toArray, List.set_cons_zero, List.set_cons_succ]
          refine wpAnyH_take (i := 10) (oi := ({ dst := some 69, op := Op.fieldAddr 34 (Operand.tmp 3) 9, type := 0, pos := "law.go:94", after := #[{ on := 6, ground := Ground.guard }], guard := some (6, true) } : Oper)) (v := ?hv88) rfl (by kernel_rfl) (by kernel_rfl) (by kernel_rfl) (fun _ _ _ h => h) (Or.inl ⟨by rfl, ?hy88⟩) (by assumption) ?hr88
          case hy88 => (intro w hSw; (try dsimp only at hSw); go_simp; (try with_reducible rfl))
          try simp only [Act.put, List.setIfInBounds_toArray, List.set_cons_zero, List.set_cons_succ]
          refine wpAnyH_take (i := 11) (oi := ({ dst := some 70, op := Op.load 23 (Operand.tmp 69), type := 23, pos := "law.go:94", after := #[{ on := 10, ground := Ground.data }, { on := 6, ground := Ground.guard }], guard := some (6, true) } : Oper)) (v := .slice e.a9 e.n9 e.c9) rfl (by kernel_rfl) (by kernel_rfl) (by kernel_rfl) (fun _ _ _ h => h) (Or.inl ⟨by rfl, fun w0 hw0 => by have q0 := (XR.out.below hw0).cell (i := 9) rfl; go_simp⟩) (by assumption) ?_
          try simp only [Act.put, List.setIfInBounds_toArray, List.set_cons_zero, List.set_cons_succ]
          refine wpAnyH_ready (rs := [8]) (by kernel_rfl) (by simp) ?_
          refine AllReadyH.cons (o := ({ dst := some 67, op := Op.call { callee := Callee.value (Operand.func 26), args := #[Operand.tmp 66], argTypes := #[44] }, type := 23, pos := "law.go:94", after := #[{ on := 7, ground := Ground.data }, { on := 6, ground := Ground.chain }, { on := 6, ground := Ground.guard }], guard := some (6, true) } : Oper)) rfl (fun KK hKK => ?_) AllReadyH.nil
          go_simp
          (with_reducible refine (C26.out _ RB0.out).mono ?_)
          rintro e0 y1 ⟨A1, c1, rfl, h1, hb⟩
          have RB1 := Lib.hid (RB0.out.trans (hb.mono RB0.out.size))
          have G1 := Lib.hid h1
          clear hb
          refine hKK.out _ _ (RB1.out) (fun hH1 => ?_)
          clear hKK KK
          try simp only [Act.put, List.setIfInBounds_toArray, List.set_cons_zero, List.set_cons_succ]
          refine wpAnyH_ready (rs := [9]) (by kernel_rfl) (by simp) ?_
          refine AllReadyH.cons (o := ({ dst := some 68, op := Op.call { callee := Callee.value (Operand.func 25), args := #[Operand.tmp 67], argTypes := #[23] }, type := 23, pos := "law.go:94", after := #[{ on := 8, ground := Ground.data }, { on := 8, ground := Ground.chain }, { on := 6, ground := Ground.guard }], guard := some (6, true) } : Oper)) rfl (fun KK hKK => ?_) AllReadyH.nil
          go_simp
          (with_reducible refine (HS1.out _ _ _ G1.out).mono ?_)
          rintro e0 y2 ⟨A2, c2, rfl, h2, hb⟩
          have RB2 := Lib.hid (RB1.out.trans (hb.mono RB1.out.size))
          have G1 := Lib.hid (G1.out.below hb)
          have G2 := Lib.hid h2
          clear hb
          refine hKK.out _ _ (RB2.out) (fun hH2 => ?_)
          clear hKK KK
          try simp only [Act.put, List.setIfInBounds_toArray, List.set_cons_zero, List.set_cons_succ]
          refine wpAnyH_ready (rs := [12]) (by kernel_rfl) (by simp) ?_
          refine AllReadyH.cons (o := ({ dst := some 71, op := Op.call { callee := Callee.value (Operand.func 25), args := #[Operand.tmp 70], argTypes := #[23] }, type := 23, pos := "law.go:94", after := #[{ on := 11, ground := Ground.data }, { on := 9, ground := Ground.chain }, { on := 6, ground := Ground.guard }], guard := some (6, true) } : Oper)) rfl (fun KK hKK => ?_) AllReadyH.nil
          go_simp
          (with_reducible refine (HS2.out _ RB2.out).mono ?_)
          rintro e0 y3 ⟨A3, c3, rfl, h3, hb⟩
          have RB3 := Lib.hid (RB2.out.trans (hb.mono RB2.out.size))
          have G1 := Lib.hid (G1.out.below hb)
          have G2 := Lib.hid (G2.out.below hb)
          have G3 := Lib.hid h3
          clear hb
          refine hKK.out _ _ (RB3.out) (fun hH3 => ?_)
          clear hKK KK
          try simp only [Act.put, List.setIfInBounds_toArray, List.set_cons_zero, List.set_cons_succ]
          refine wpAnyH_ready (rs := [13]) (by kernel_rfl) (by simp) ?_
          refine AllReadyH.cons (o := ({ dst := some 72, op := Op.call { callee := Callee.value (Operand.func 15), args := #[Operand.tmp 68, Operand.tmp 71], argTypes := #[23, 23] }, type := 4, pos := "law.go:94", after := #[{ on := 9, ground := Ground.data }, { on := 12, ground := Ground.data }, { on := 12, ground := Ground.chain }, { on := 6, ground := Ground.guard }], guard := some (6, true) } : Oper)) rfl (fun KK hKK => ?_) AllReadyH.nil
          go_simp
          (with_reducible refine (sameR _ _ L.length _ _ L _ G2.out G3.out).mono ?_)
          rintro e0 y4 ⟨rfl, hb⟩
          have RB4 := Lib.hid (RB3.out.trans (hb.mono RB3.out.size))
          have G1 := Lib.hid (G1.out.below hb)
          have G2 := Lib.hid (G2.out.below hb)
          have G3 := Lib.hid (G3.out.below hb)
          clear hb
          refine hKK.out _ _ (RB4.out) (fun hH4 => ?_)
          clear hKK KK
          try simp only [Act.put, List.setIfInBounds_toArray, List.set_cons_zero, List.set_cons_succ]
          refine wpAnyH_take (i := 14) (oi := ({ dst := some 73, op := Op.pick (Operand.tmp 65) (Operand.tmp 72) (Operand.const (Value.bool false)), type := 4, pos := "law.go:94", after := #[{ on := 6, ground := Ground.data }, { on := 13, ground := Ground.data }], guard := none } : Oper)) (v := ?hv89) rfl (by kernel_rfl) (by kernel_rfl) (by kernel_rfl) (fun _ _ _ h => h) (Or.inl ⟨by rfl, ?hy89⟩) (by assumption) ?hr89
          case hy89 => (intro w hSw; (try dsimp only at hSw); go_simp; (try with_reducible rfl))
          try simp only [Act.put, List.setIfInBounds_toArray, List.set_cons_zero, List.set_cons_succ]
          refine wpAnyH_take (i := 15) (oi := ({ dst := some 74, op := Op.move (Operand.tmp 73), type := 4, pos := "law.go:94", after := #[{ on := 14, ground := Ground.data }, { on := 13, ground := Ground.chain }], guard := none } : Oper)) (v := ?hv90) rfl (by kernel_rfl) (by kernel_rfl) (by kernel_rfl) (fun _ _ _ h => h) (Or.inl ⟨by rfl, ?hy90⟩) (by assumption) ?hr90
          case hy90 => (intro w hSw; (try dsimp only at hSw); go_simp; (try with_reducible rfl))
          try simp only [Act.put, List.setIfInBounds_toArray, List.set_cons_zero, List.set_cons_succ]
          refine wpAnyH_ready (rs := [16]) (by kernel_rfl) (by simp) ?_
          refine AllReadyH.cons (o := ({ dst := some 75, op := Op.call { callee := Callee.value (Operand.func 14), args := #[], argTypes := #[] }, type := 4, pos := "law.go:94", after := #[{ on := 15, ground := Ground.chain }, { on := 15, ground := Ground.guard }], guard := some (15, true) } : Oper)) rfl (fun KK hKK => ?_) AllReadyH.nil
          go_simp
          (with_reducible refine (live14 _).mono ?_)
          rintro e0 y5 ⟨rfl, hb⟩
          have RB5 := Lib.hid (RB4.out.trans (hb.mono RB4.out.size))
          have G1 := Lib.hid (G1.out.below hb)
          have G2 := Lib.hid (G2.out.below hb)
          have G3 := Lib.hid (G3.out.below hb)
          clear hb
          refine hKK.out _ _ (RB5.out) (fun hH5 => ?_)
          clear hKK KK
          try simp only [Act.put, List.setIfInBounds_toArray, List.set_cons_zero, List.set_cons_succ]
          refine wpAnyH_take (i := 17) (oi := ({ dst := some 76, op := Op.pick (Operand.tmp 74) (Operand.tmp 75) (Operand.const (Value.bool false)), type := 4, pos := "law.go:94", after := #[{ on := 15, ground := Ground.data }, { on := 16, ground := Ground.data }], guard := none } : Oper)) (v := ?hv91) rfl (by kernel_rfl) (by kernel_rfl) (by kernel_rfl) (fun _ _ _ h => h) (Or.inl ⟨by rfl, ?hy91⟩) (by assumption) ?hr91
          case hy91 => (intro w hSw; (try dsimp only at hSw); go_simp; (try with_reducible rfl))
          try simp only [Act.put, List.setIfInBounds_toArray, List.set_cons_zero, List.set_cons_succ]
          refine wpAnyH_take (i := 18) (oi := ({ dst := some 4, op := Op.assign (Operand.tmp 76), type := 4, pos := "law.go:94", after := #[{ on := 17, ground := Ground.data }, { on := 16, ground := Ground.chain }, { on := 0, ground := Ground.phase }, { on := 1, ground := Ground.phase }, { on := 2, ground := Ground.phase }, { on := 3, ground := Ground.phase }, { on := 4, ground := Ground.phase }, { on := 5, ground := Ground.phase }, { on := 6, ground := Ground.phase }, { on := 7, ground := Ground.phase }, { on := 8, ground := Ground.phase }, { on := 9, ground := Ground.phase }, { on := 10, ground := Ground.phase }, { on := 11, ground := Ground.phase }, { on := 12, ground := Ground.phase }, { on := 13, ground := Ground.phase }, { on := 14, ground := Ground.phase }, { on := 15, ground := Ground.phase }, { on := 16, ground := Ground.phase }, { on := 17, ground := Ground.phase }], guard := none } : Oper)) (v := ?hv92) rfl (by kernel_rfl) (by kernel_rfl) (by kernel_rfl) (fun _ _ _ h => h) (Or.inl ⟨by rfl, ?hy92⟩) (by assumption) ?hr92
          case hy92 => (intro w hSw; (try dsimp only at hSw); go_simp; (try with_reducible rfl))
          try simp only [Act.put, List.setIfInBounds_toArray, List.set_cons_zero, List.set_cons_succ]
          refine wpAnyH_done (by kernel_rfl) ?_ _
          go_wp2
          go_ret
          exact ⟨rfl, BW.out.trans (RB5.out.mono BW.out.size)⟩
    all_goals
      go_ret
      exact ⟨rfl, B9.out⟩
  · have z1 : (fitsE E n e == 0) = false := beq_eq_false_iff_ne.2 hf
    have z2 : (fitsE E n e != 0) = true := bne_iff_ne.2 hf
    generalize fitsE E n e = ft at C19 z1 z2
    clear HP hf
    go_wp2_with (first
      | (go_at_call 18; (with_reducible refine HGr.out.mono ?_); rintro e1 w3 ⟨⟨q, rfl, hq⟩, hb⟩; have HQ := Lib.hid hq; have F3 := Lib.hid hb; have B3 := Lib.hid (BA.out.trans (hb.mono BA.out.size)); have R3 := Lib.hid (XA.out.below hb).range; clear hq hb; cases q)
      | (refine load_mid_g (by rfl) 34 _ rfl w.heap.size 0 rfl (cellsE e) _ R3.out Try.underlying34 rfl size39 ?_)
      | (go_at_call 10; (with_reducible refine (HLo.out _ B3.out).mono ?_); rintro e1 w4 ⟨⟨q, rfl, hq⟩, hb⟩; have HL := Lib.hid hq; have F4 := Lib.hid (F3.out.trans (hb.mono F3.out.size)); have R4 := Lib.hid (XA.out.below F4.out).range; have B4 := Lib.hid (B3.out.trans (hb.mono B3.out.size)); clear hq hb; cases q)
      | (refine load_mid_g (by rfl) 34 _ rfl w.heap.size 0 rfl (cellsE e) _ R4.out Try.underlying34 rfl size39 ?_)
      | (go_at_call 19; (with_reducible refine (C19.out _ F4.out (Nat.le_trans (fe9 (HL.out (by first | rfl | trivial))) (by omega))).mono ?_); rintro e1 w5 ⟨rfl, hb⟩; have F5 := Lib.hid (F4.out.trans (hb.mono F4.out.size)); have X5 := Lib.hid (XA.out.below F5.out); have R5 := Lib.hid X5.out.range; have B5 := Lib.hid (B4.out.trans (hb.mono B4.out.size)); clear hb)
      | (go_at_call 14; (with_reducible refine (live14 _).mono ?_); rintro e1 w9 ⟨rfl, hb⟩; have B9 := Lib.hid (B5.out.trans (hb.mono B5.out.size)); clear hb)
      | (go_at_call 14; (with_reducible refine (live14 _).mono ?_); rintro e1 w9 ⟨rfl, hb⟩; have B9 := Lib.hid (B4.out.trans (hb.mono B4.out.size)); clear hb)
      | (go_at_call 14; (with_reducible refine (live14 _).mono ?_); rintro e1 w9 ⟨rfl, hb⟩; have B9 := Lib.hid (B3.out.trans (hb.mono B3.out.size)); clear hb)
      | go_in)
    all_goals
      go_ret
      exact ⟨rfl, B9.out⟩
end Go.Proofs.Ytbedibiodlgegaa

namespace Go.Proofs.Ytbedibiodlgegaa
open Go Go.RowKit
set_option linter.unusedVariables false
set_option linter.unusedSimpArgs false

def IntNw (w : World) (zs : List Int) (e : Ending) (w' : World) : Prop := ∃ A c, e = .returned (.slice A zs.length c) ∧ Q.Ints w' A zs.length c zs ∧ Below w.heap.size w w' ∧ ∀ b off, A = some ⟨b, off, none⟩ → w.heap.size ≤ b
set_option maxRecDepth 100000 in
set_option maxHeartbeats 8000000 in
theorem select16N (e : Evd) (A : Option Addr) (n c : Nat) (sl : List Ky.Rc) (w : World) (h : Wfe e) (hs : EnR w A n c sl) (hn : n ≤ 1000000) : Calls Try.prog 16 #[.agg (cellsE e).toArray, .slice A n c] w (IntNw w (Q.M.st (selL (keysE e) sl))) := by
  show Calls Try.prog 16 #[.agg #[.int .i64 e.e0, .string e.e1, .string e.e2, .int .i64 e.e3, .bool e.e4, .string e.e5, .int .i64 e.e6, .int .i64 e.e7, .slice e.a8 e.n8 e.c8, .slice e.a9 e.n9 e.c9, .string e.C.tx, .int .i64 e.C.n, .int .i64 e.C.tg, .bool e.C.th, .string e.C.via, .slice e.a.aA e.C.nA e.a.aC, .slice e.a.dA e.C.nD e.a.dC, .slice e.a.uA e.C.lv.nU e.a.uC, .slice e.a.kA e.C.lv.nK e.a.kC, .int .i64 e.C.lv.d, .int .i64 e.C.lv.x3, .int .i64 e.C.lv.x4, .int .i64 e.C.lv.x5, .int .i64 e.C.lv.x6, .int .i64 e.C.lv.x7, .int .i64 e.C.lv.x8, .int .i64 e.e26, .string e.e27, .int .i64 e.e28], .slice A n c] w _
  have BA := Lib.hid (((Below.refl w.heap.size w).alloc (Nat.le_refl _) (.cells #[.int .i64 e.e0, .string e.e1, .string e.e2, .int .i64 e.e3, .bool e.e4, .string e.e5, .int .i64 e.e6, .int .i64 e.e7, .slice e.a8 e.n8 e.c8, .slice e.a9 e.n9 e.c9, .string e.C.tx, .int .i64 e.C.n, .int .i64 e.C.tg, .bool e.C.th, .string e.C.via, .slice e.a.aA e.C.nA e.a.aC, .slice e.a.dA e.C.nD e.a.dC, .slice e.a.uA e.C.lv.nU e.a.uC, .slice e.a.kA e.C.lv.nK e.a.kC, .int .i64 e.C.lv.d, .int .i64 e.C.lv.x3, .int .i64 e.C.lv.x4, .int .i64 e.C.lv.x5, .int .i64 e.C.lv.x6, .int .i64 e.C.lv.x7, .int .i64 e.C.lv.x8, .int .i64 e.e26, .string e.e27, .int .i64 e.e28] 34)).alloc (by simp) (.cells #[] 3))
  have HK := Lib.hid (keysOf29 w.heap.size 0 e.e3 e.e2 e.e5 e.C.n ((w.alloc (.cells #[.int .i64 e.e0, .string e.e1, .string e.e2, .int .i64 e.e3, .bool e.e4, .string e.e5, .int .i64 e.e6, .int .i64 e.e7, .slice e.a8 e.n8 e.c8, .slice e.a9 e.n9 e.c9, .string e.C.tx, .int .i64 e.C.n, .int .i64 e.C.tg, .bool e.C.th, .string e.C.via, .slice e.a.aA e.C.nA e.a.aC, .slice e.a.dA e.C.nD e.a.dC, .slice e.a.uA e.C.lv.nU e.a.uC, .slice e.a.kA e.C.lv.nK e.a.kC, .int .i64 e.C.lv.d, .int .i64 e.C.lv.x3, .int .i64 e.C.lv.x4, .int .i64 e.C.lv.x5, .int .i64 e.C.lv.x6, .int .i64 e.C.lv.x7, .int .i64 e.C.lv.x8, .int .i64 e.e26, .string e.e27, .int .i64 e.e28] 34)).alloc (.cells #[] 3)) ((ev_box w).below ((Below.refl _ _).alloc (Nat.le_refl _) _)) h.s2 h.s5)
  have OM : Hid (((w.alloc (.cells #[.int .i64 e.e0, .string e.e1, .string e.e2, .int .i64 e.e3, .bool e.e4, .string e.e5, .int .i64 e.e6, .int .i64 e.e7, .slice e.a8 e.n8 e.c8, .slice e.a9 e.n9 e.c9, .string e.C.tx, .int .i64 e.C.n, .int .i64 e.C.tg, .bool e.C.th, .string e.C.via, .slice e.a.aA e.C.nA e.a.aC, .slice e.a.dA e.C.nD e.a.dC, .slice e.a.uA e.C.lv.nU e.a.uC, .slice e.a.kA e.C.lv.nK e.a.kC, .int .i64 e.C.lv.d, .int .i64 e.C.lv.x3, .int .i64 e.C.lv.x4, .int .i64 e.C.lv.x5, .int .i64 e.C.lv.x6, .int .i64 e.C.lv.x7, .int .i64 e.C.lv.x8, .int .i64 e.e26, .string e.e27, .int .i64 e.e28] 34)).alloc (.cells #[] 3)).ownsRow w.heap.size 3 1 (.slice (some ⟨w.heap.size + 1, 0, none⟩) 0 0) 0 []) := Lib.hid (by
    have := World.ownsRow_made (base := w.heap.size) (e := 3) (size := 1) (w.alloc (.cells #[.int .i64 e.e0, .string e.e1, .string e.e2, .int .i64 e.e3, .bool e.e4, .string e.e5, .int .i64 e.e6, .int .i64 e.e7, .slice e.a8 e.n8 e.c8, .slice e.a9 e.n9 e.c9, .string e.C.tx, .int .i64 e.C.n, .int .i64 e.C.tg, .bool e.C.th, .string e.C.via, .slice e.a.aA e.C.nA e.a.aC, .slice e.a.dA e.C.nD e.a.dC, .slice e.a.uA e.C.lv.nU e.a.uC, .slice e.a.kA e.C.lv.nK e.a.kC, .int .i64 e.C.lv.d, .int .i64 e.C.lv.x3, .int .i64 e.C.lv.x4, .int .i64 e.C.lv.x5, .int .i64 e.C.lv.x6, .int .i64 e.C.lv.x7, .int .i64 e.C.lv.x8, .int .i64 e.e26, .string e.e27, .int .i64 e.e28] 34)) #[] 0 (by simp) (by decide) (by simp)
    rw [World.size_alloc] at this
    exact this)
  have HS := Lib.hid hs
  have HSl := Lib.hid (show sl.length = n by have := hs.len; rwa [List.length_map] at this)
  have HL := Lib.hid (keys_len e)
  obtain ⟨i0, hi, hz0, hz1, hz2⟩ := info_parts info3
  have HI := Lib.hid (And.intro hi (And.intro hz0 (And.intro hz1 hz2)))
  unfold KeysP at HK
  rw [show Ky.keysL e.e3 e.e2 e.e5 e.C.n = keysE e from rfl] at HK
  unfold IntNw
  generalize keysE e = kl at HK HL ⊢
  clear h hs hi hz0 hz1 hz2
  go_enter Try.func16, Try.ntmps16
  go_wp2_with (first
    | (go_at_call 29; (with_reducible refine HK.out.mono ?_); rintro e1 w3 ⟨A3, c3, rfl, hr, hb, hf3⟩; have R3 := Lib.hid hr; have HF3 := Lib.hid (show ∀ b off, A3 = some ⟨b, off, none⟩ → w.heap.size + 1 < b from fun b off e => by have := hf3 b off e; simp only [World.size_alloc] at this; omega); have O3 := Lib.hid (own_keep OM.out (fun b _ hl => hb.block b hl)); have B3 := Lib.hid (BA.out.trans (hb.mono BA.out.size)); clear hr hb hf3)
    | go_in)
  have hll := HL.out
  go_loopg [5, 7, 8, 12] kl.length (fun gg s5 _ _ s12 wr => ∃ (kk : Nat) (v : Value), kk ≤ kl.length ∧ kl.length - kk ≤ gg ∧ v = s5 ∧ s12 = .int .i64 (kk : Int) ∧ Hid (wr.ownsRow w.heap.size 3 1 v (selL (kl.take kk) sl).length ((selL (kl.take kk) sl).map (Value.int .i64))) ∧ Hid (w3.heap.size ≤ wr.heap.size ∧ OBk (w.heap.size + 1) w3.heap.size v) ∧ Hid (Below w.heap.size w wr) ∧ Hid (Ky.Rcs wr A3 kl.length c3 kl))
  case atStart => exact ⟨0, _, Nat.zero_le _, by omega, rfl, rfl, O3, Lib.hid ⟨Nat.le_refl _, _, rfl, .inl rfl⟩, B3, R3⟩
  case round =>
    obtain ⟨kk, v, hkk, hg, rfl, rfl, HO, HZ, BW, HR⟩ := hrel
    have hsl : (selL (kl.take kk) sl).length ≤ kk := by have := sel_len (kl.take kk) sl; rw [List.length_take] at this; omega
    by_cases hlt : kk < kl.length
    · have hltz : (kk : Int) < (kl.length : Int) := by omega
      have hk0 : (0 : Int) ≤ (kk : Int) := by omega
      obtain ⟨b0, off0, e0, hb0, _⟩ := R3.out.get hlt
      obtain ⟨b3, off3, e3, hl3, hr, _⟩ := HR.out.get hlt
      have HNE := Lib.hid (HZ.out.2.ne (HF3.out b0 off0 e0) hb0)
      have HTk := Lib.hid (sel_snoc (sl := sl) hlt)
      rw [e0] at e3
      simp only [Option.some.injEq, Addr.mk.injEq, and_true] at e3
      obtain ⟨rfl, rfl⟩ := e3
      have hzz := HZ.out.1
      generalize kl.getD kk Ky.t0 = q at hr HTk
      have q0 : wr.cell? ⟨b0, off0 + kk * 3, none⟩ = some (.int .i64 q.k) := hr 0 _ rfl
      have q1 : wr.cell? ⟨b0, off0 + kk * 3 + 1, none⟩ = some (.string q.key) := hr 1 _ rfl
      have q2 : wr.cell? ⟨b0, off0 + kk * 3 + 2, none⟩ = some (.int .i64 q.id) := hr 2 _ rfl
      have XK := Lib.hid (show Blk (wr.alloc (.cells #[.int .i64 q.k, .string q.key, .int .i64 q.id] 64)) wr.heap.size (Ky.enc q) 64 from blk_new wr (Ky.enc q) 64)
      have BK := Lib.hid ((Below.refl wr.heap.size wr).alloc (Nat.le_refl _) (.cells #[.int .i64 q.k, .string q.key, .int .i64 q.id] 64))
      have HX := Lib.hid (index31 A n c sl wr.heap.size q _ (HS.out.below (BW.out.trans (BK.out.mono BW.out.size))) hn XK.out)
      clear hr
      subst e0
      rcases fst_cases sl (isK q.k q.key) with ⟨j, hj, hf, hfd⟩ | ⟨hf, hfd⟩
      · rw [hf] at HX
        have HTk2 := Lib.hid (show selL (kl.take (kk + 1)) sl = selL (kl.take kk) sl ++ [(sl.getD j Ky.t0).id] by rw [HTk.out, hfd]; rfl)
        rw [HSl.out] at hj
        obtain ⟨bs, os, eA, hbs, h3⟩ := EnR.three HS.out hj
        have hjz : (j : Int) < (n : Int) := by omega
        have hj0 : (0 : Int) ≤ (j : Int) := by omega
        have HId := Lib.hid (fun v (hb : Below w.heap.size w v) => (h3 v hb).2.2)
        generalize (sl.getD j Ky.t0).id = z at HTk2 HId
        generalize selL (kl.take kk) sl = l at HO HTk2 hsl
        clear h3 hf hfd HTk
        subst eA
        go_wp2_with (first
          | (go_at_call 31; (with_reducible refine HX.out.mono ?_); rintro e1 w4 ⟨rfl, hb⟩; have C4 := Lib.hid (BK.out.trans (hb.mono BK.out.size)); have B4 := Lib.hid (BW.out.trans (C4.out.mono BW.out.size)); have r4 := HId.out _ B4.out; have O4 := Lib.hid (own_keep HO.out (fun b _ hl => C4.out.block b hl)); have R4 := Lib.hid (HR.out.below C4.out); have z4 := C4.out.size; clear hb)
          | (at_builtin; refine wpList_append_any _ rfl _ _ 23 rfl w.heap.size 3 i0 _ 1 8 Try.underlying23 HI.out.1 HI.out.2.1 HI.out.2.2.1 HI.out.2.2.2 rfl (by decide) _ l.length (l.map (Value.int .i64)) rfl (O4.out.alloc _) _ 1 1 [.int .i64 z] rfl (int_src2 _ z) (by unfold maxLen; omega) (by omega) (B4.out.alloc B4.out.size _).size ?_; intro v5 w5 hgr; have B5 := Lib.hid (hgr.below (B4.out.alloc B4.out.size _) (O4.out.alloc _)); have O5 := Lib.hid hgr.own; have R5 := Lib.hid ((R4.out.below ((Below.refl _ _).alloc (Nat.le_refl _) _)).grew hgr.grow (fun b off e => by cases e; exact HNE.out)); have Z5 := Lib.hid (show w3.heap.size ≤ w5.heap.size ∧ OBk (w.heap.size + 1) w3.heap.size v5 from ⟨by have := hgr.grow.size; simp only [World.size_alloc] at this; omega, obk_step HZ.out.2 hgr.at_ (by simp only [World.size_alloc]; omega)⟩); clear hgr)
          | go_in)
        go_roundg (kl.length - (kk + 1))
        case measure => omega
        case rel => exact ⟨kk + 1, v5, by omega, by omega, rfl, by go_num, Lib.hid (by rw [HTk2.out, List.length_append, List.map_append]; exact O5.out), Z5, B5, R5⟩
      · rw [hf] at HX
        have HTk2 := Lib.hid (show selL (kl.take (kk + 1)) sl = selL (kl.take kk) sl by rw [HTk.out, hfd]; simp)
        generalize selL (kl.take kk) sl = l at HO HTk2 hsl
        clear hf hfd HTk
        go_wp2_with (first
          | (go_at_call 31; (with_reducible refine HX.out.mono ?_); rintro e1 w4 ⟨rfl, hb⟩; have C4 := Lib.hid (BK.out.trans (hb.mono BK.out.size)); have B4 := Lib.hid (BW.out.trans (C4.out.mono BW.out.size)); have O4 := Lib.hid (own_keep HO.out (fun b _ hl => C4.out.block b hl)); have R4 := Lib.hid (HR.out.below C4.out); have Z4 := Lib.hid (show w3.heap.size ≤ w4.heap.size ∧ OBk (w.heap.size + 1) w3.heap.size v from ⟨Nat.le_trans HZ.out.1 C4.out.size, HZ.out.2⟩); clear hb)
          | go_in)
        go_roundg (kl.length - (kk + 1))
        case measure => omega
        case rel => exact ⟨kk + 1, v, by omega, by omega, rfl, by go_num, Lib.hid (by rw [HTk2.out]; exact O4.out), Z4, B4, R4⟩
    · have hltz : ¬ (kk : Int) < (kl.length : Int) := by omega
      have HTa := Lib.hid (show kl.take kk = kl from List.take_of_length_le (by omega))
      rw [HTa.out] at HO hsl
      obtain ⟨A4, c4, rfl, _⟩ := Q.own_slice HO.out
      have HSo := Lib.hid (Q.sortedN_any A4 (selL kl sl).length c4 (selL kl sl) wr (Q.own_ints HO.out (by omega)))
      go_wp2_with (first
        | (go_at_call 33; (with_reducible refine HSo.out.mono ?_); rintro e1 w4 ⟨A5, c5, rfl, hi, hb, hnw⟩; have HNw := Lib.hid hnw; have I5 := Lib.hid hi; have B5 := Lib.hid (BW.out.trans (hb.mono BW.out.size)); clear hi hb hnw)
        | go_in)
      go_ret
      exact ⟨_, _, rfl, I5.out, B5.out, fun b off e => Nat.le_trans BW.out.size (HNw.out b off e)⟩

/-- Every entry of the state names an event of the room with its kind and key; one is that of the create event. -/
def GoodP (E : Nat → Evd) (n : Nat) (room : ByteArray) (p : Ky.Rc) : Prop := ∃ k, pl E n p.id = some k ∧ (E k).e3 = p.k ∧ (E k).e5.toList = p.key.toList ∧ (E k).e1.toList = room.toList
def HonP (E : Nat → Evd) (n : Nat) (sl : List Ky.Rc) (room : ByteArray) : Prop := (∀ p ∈ sl, GoodP E n room p) ∧ sl.any (isK 1 ⟨#[]⟩) = true
def HonE (P : Prop) (e : Ending) : Prop := ∃ b, e = .returned (.bool b) ∧ (b = true → P)
theorem empL : (⟨#[]⟩ : ByteArray).toList = [] := by kernel_rfl
theorem any_snoc {l : List Ky.Rc} {f : Ky.Rc → Bool} {k : Nat} (h : k < l.length) : (l.take (k + 1)).any f = ((l.take k).any f || f (l.getD k Ky.t0)) := by
  rw [List.take_succ_eq_append_getElem h, List.any_append, Ky.getD_at h]; simp
set_option maxRecDepth 100000 in
set_option maxHeartbeats 16000000 in
theorem honest24 (A : Option Addr) (n c : Nat) (E : Nat → Evd) (As : Option Addr) (m d : Nat) (sl : List Ky.Rc) (room : ByteArray) (w : World) (h : Evx w A n E) (hs : EnR w As m d sl) (hm : m ≤ 1000000) : Calls Try.prog 24 #[.slice A n c, .slice As m d, .string room] w fun e w' => HonE (HonP E n sl room) e ∧ Below w.heap.size w w' := by
  have H := Lib.hid h
  have HS := Lib.hid hs
  have HSl := Lib.hid (show sl.length = m by have := hs.len; rwa [List.length_map] at this)
  have hbig := h.big
  clear h hs
  go_enter Try.func24, Try.ntmps24
  go_wp2
  go_loopg [7, 8, 9, 10] m (fun gg s7 s8 _ _ wr => ∃ (jj : Nat) (cr : Bool), jj ≤ m ∧ m - jj ≤ gg ∧ s8 = .int .i64 jj ∧ s7 = .bool cr ∧ Hid (cr = (sl.take jj).any (isK 1 ⟨#[]⟩)) ∧ Hid (∀ j, j < jj → GoodP E n room (sl.getD j Ky.t0)) ∧ Hid (Below w.heap.size w wr))
  case atStart => exact ⟨0, false, Nat.zero_le _, by omega, rfl, rfl, Lib.hid rfl, Lib.hid (fun j hj => absurd hj (Nat.not_lt_zero _)), Lib.hid (Below.refl _ _)⟩
  case round =>
    obtain ⟨jj, cr, hjj, hg, rfl, rfl, HC, HG, BX⟩ := hrel
    by_cases hlt : jj < m
    · have hltz : (jj : Int) < (m : Int) := by omega
      have hj0 : (0 : Int) ≤ (jj : Int) := by omega
      obtain ⟨b3, off3, rfl, _, h3⟩ := EnR.three (HS.out.below BX.out) hlt
      obtain ⟨p0, p1, p2⟩ := h3 wr (Below.refl _ _)
      have HP0 := Lib.hid h3
      have HA := Lib.hid (any_snoc (f := isK 1 ⟨#[]⟩) (show jj < sl.length by rw [HSl.out]; exact hlt))
      have HG1 : Hid (GoodP E n room (sl.getD jj Ky.t0) → ∀ j, j < jj + 1 → GoodP E n room (sl.getD j Ky.t0)) := Lib.hid (fun h j hj => by
        by_cases e : j = jj
        · subst e; exact h
        · exact HG.out j (by omega))
      generalize sl.getD jj Ky.t0 = p at p0 p1 p2 HP0 HA HG1
      clear h3
      have CG := Lib.hid (fun u (hb : Below wr.heap.size wr u) => get40 A n c p.id E u ((H.out.below BX.out).below hb))
      cases hp : pl E n p.id with
      | none =>
        rw [hp, show gotE E none = ev0 from rfl, show (none : Option Nat).isSome = false from rfl] at CG
        go_upto_region 6 with (first
          | (go_at_call 40; (with_reducible refine (CG.out _ (Below.refl _ _)).mono ?_); rintro e1 w3 ⟨rfl, hb3⟩; have HB3 := Lib.hid hb3; clear hb3)
          | (refine wpList_store_mid rfl 34 _ _ rfl w3.heap.size 0 (cellsE ev0).toArray rfl rfl (Blk.there (n := 29) (blk_new w3 z29 34) (by decide)) size39 (cellsE_all _) ?_; obtain ⟨w4, hw, hx, hb, hs⟩ := new_event w3 ev0; rw [hw]; have X4 := Lib.hid hx; have Q4 := Lib.hid (HB3.out.trans (hb.mono HB3.out.size)); clear hw hx hb hs)
          | fail)
        have HPs := Lib.hid (fun u (hb : Below w4.heap.size w4 u) => HP0.out u (Q4.out.trans (hb.mono Q4.out.size)))
        have BW4 := Lib.hid (BX.out.trans (Q4.out.mono BX.out.size))
        refine wp_region_held_drew (S := (fun y => Below w4.heap.size w4 y)) (by kernel_rfl) ((Below.refl w4.heap.size w4).drew) (fun hH0 => ?_)
        generalize hy0 : World.drew _ = y0 at hH0 ⊢
        have RB0 : Hid (Below w4.heap.size w4 y0) := Lib.hid hH0
        clear hy0
        refine wpAnyH_take (i := 0) (oi := ({ dst := some 27, op := Op.move (Operand.tmp 10), type := 4, pos := "law.go:64", after := #[], guard := none } : Oper)) (v := ?hv50) rfl (by kernel_rfl) (by kernel_rfl) (by kernel_rfl) (fun _ _ _ h => h) (Or.inl ⟨by rfl, ?hy50⟩) (by assumption) ?hr50
        case hy50 => (intro w hSw; (try dsimp only at hSw); go_simp; (try with_reducible rfl))
        try simp only [Act.put, List.setIfInBounds_toArray, List.set_cons_zero, List.set_cons_succ]
        refine wpAnyH_take (i := 1) (oi := ({ dst := some 28, op := Op.unOp UnOp.not 4 (Operand.tmp 27), type := 4, pos := "law.go:64", after := #[{ on := 0, ground := Ground.data }], guard := none } : Oper)) (v := ?hv51) rfl (by kernel_rfl) (by kernel_rfl) (by kernel_rfl) (fun _ _ _ h => h) (Or.inl ⟨by rfl, ?hy51⟩) (by assumption) ?hr51
        case hy51 => (intro w hSw; (try dsimp only at hSw); go_simp; (try with_reducible rfl))
        try simp only [Act.put, List.setIfInBounds_toArray, List.set_cons_zero, List.set_cons_succ]
        refine wpAnyH_take (i := 2) (oi := ({ dst := some 29, op := Op.move (Operand.tmp 28), type := 4, pos := "law.go:64", after := #[{ on := 1, ground := Ground.data }], guard := none } : Oper)) (v := ?hv52) rfl (by kernel_rfl) (by kernel_rfl) (by kernel_rfl) (fun _ _ _ h => h) (Or.inl ⟨by rfl, ?hy52⟩) (by assumption) ?hr52
        case hy52 => (intro w hSw; (try dsimp only at hSw); go_simp; (try with_reducible rfl))
        try simp only [Act.put, List.setIfInBounds_toArray, List.set_cons_zero, List.set_cons_succ]
        refine wpAnyH_take (i := 3) (oi := ({ dst := some 30, op := Op.fieldAddr 34 (Operand.tmp 9) 3, type := 0, pos := "law.go:64", after := #[{ on := 2, ground := Ground.guard }], guard := some (2, false) } : Oper)) (v := undef) rfl (by kernel_rfl) (by kernel_rfl) (by kernel_rfl) (fun _ _ _ h => h) (Or.inr ⟨by rfl, rfl⟩) (by assumption) ?_
        try simp only [Act.put, List.setIfInBounds_toArray, List.set_cons_zero, List.set_cons_succ]
        refine wpAnyH_take (i := 4) (oi := ({ dst := some 31, op := Op.load 22 (Operand.tmp 30), type := 22, pos := "law.go:64", after := #[{ on := 3, ground := Ground.data }, { on := 2, ground := Ground.guard }], guard := some (2, false) } : Oper)) (v := undef) rfl (by kernel_rfl) (by kernel_rfl) (by kernel_rfl) (fun _ _ _ h => h) (Or.inr ⟨by rfl, rfl⟩) (by assumption) ?_
        try simp only [Act.put, List.setIfInBounds_toArray, List.set_cons_zero, List.set_cons_succ]
        refine wpAnyH_take (i := 5) (oi := ({ dst := some 32, op := Op.move (Operand.tmp 1), type := 40, pos := "law.go:64", after := #[{ on := 2, ground := Ground.guard }], guard := some (2, false) } : Oper)) (v := undef) rfl (by kernel_rfl) (by kernel_rfl) (by kernel_rfl) (fun _ _ _ h => h) (Or.inr ⟨by rfl, rfl⟩) (by assumption) ?_
        try simp only [Act.put, List.setIfInBounds_toArray, List.set_cons_zero, List.set_cons_succ]
        refine wpAnyH_take (i := 6) (oi := ({ dst := some 33, op := Op.move (Operand.tmp 8), type := 3, pos := "law.go:64", after := #[{ on := 2, ground := Ground.guard }], guard := some (2, false) } : Oper)) (v := undef) rfl (by kernel_rfl) (by kernel_rfl) (by kernel_rfl) (fun _ _ _ h => h) (Or.inr ⟨by rfl, rfl⟩) (by assumption) ?_
        try simp only [Act.put, List.setIfInBounds_toArray, List.set_cons_zero, List.set_cons_succ]
        refine wpAnyH_take (i := 7) (oi := ({ dst := some 34, op := Op.indexAddr 40 (Operand.tmp 32) (Operand.tmp 33), type := 0, pos := "law.go:64", after := #[{ on := 5, ground := Ground.data }, { on := 6, ground := Ground.data }, { on := 2, ground := Ground.guard }], guard := some (2, false) } : Oper)) (v := undef) rfl (by kernel_rfl) (by kernel_rfl) (by kernel_rfl) (fun _ _ _ h => h) (Or.inr ⟨by rfl, rfl⟩) (by assumption) ?_
        try simp only [Act.put, List.setIfInBounds_toArray, List.set_cons_zero, List.set_cons_succ]
        refine wpAnyH_take (i := 8) (oi := ({ dst := some 35, op := Op.fieldAddr 56 (Operand.tmp 34) 0, type := 0, pos := "law.go:64", after := #[{ on := 7, ground := Ground.data }, { on := 2, ground := Ground.guard }], guard := some (2, false) } : Oper)) (v := undef) rfl (by kernel_rfl) (by kernel_rfl) (by kernel_rfl) (fun _ _ _ h => h) (Or.inr ⟨by rfl, rfl⟩) (by assumption) ?_
        try simp only [Act.put, List.setIfInBounds_toArray, List.set_cons_zero, List.set_cons_succ]
        refine wpAnyH_take (i := 9) (oi := ({ dst := some 36, op := Op.load 22 (Operand.tmp 35), type := 22, pos := "law.go:64", after := #[{ on := 8, ground := Ground.data }, { on := 2, ground := Ground.guard }], guard := some (2, false) } : Oper)) (v := undef) rfl (by kernel_rfl) (by kernel_rfl) (by kernel_rfl) (fun _ _ _ h => h) (Or.inr ⟨by rfl, rfl⟩) (by assumption) ?_
        try simp only [Act.put, List.setIfInBounds_toArray, List.set_cons_zero, List.set_cons_succ]
        refine wpAnyH_take (i := 10) (oi := ({ dst := some 37, op := Op.binOp BinOp.neq 22 (Operand.tmp 31) (Operand.tmp 36) 22, type := 4, pos := "law.go:64", after := #[{ on := 4, ground := Ground.data }, { on := 9, ground := Ground.data }, { on := 2, ground := Ground.guard }], guard := some (2, false) } : Oper)) (v := undef) rfl (by kernel_rfl) (by kernel_rfl) (by kernel_rfl) (fun _ _ _ h => h) (Or.inr ⟨by rfl, rfl⟩) (by assumption) ?_
        try simp only [Act.put, List.setIfInBounds_toArray, List.set_cons_zero, List.set_cons_succ]
        refine wpAnyH_take (i := 11) (oi := ({ dst := some 38, op := Op.pick (Operand.tmp 29) (Operand.const (Value.bool true)) (Operand.tmp 37), type := 4, pos := "law.go:64", after := #[{ on := 2, ground := Ground.data }, { on := 10, ground := Ground.data }], guard := none } : Oper)) (v := ?hv53) rfl (by kernel_rfl) (by kernel_rfl) (by kernel_rfl) (fun _ _ _ h => h) (Or.inl ⟨by rfl, ?hy53⟩) (by assumption) ?hr53
        case hy53 => (intro w hSw; (try dsimp only at hSw); go_simp; (try with_reducible rfl))
        try simp only [Act.put, List.setIfInBounds_toArray, List.set_cons_zero, List.set_cons_succ]
        refine wpAnyH_take (i := 12) (oi := ({ dst := some 39, op := Op.move (Operand.tmp 38), type := 4, pos := "law.go:64", after := #[{ on := 11, ground := Ground.data }, { on := 2, ground := Ground.chain }], guard := none } : Oper)) (v := ?hv54) rfl (by kernel_rfl) (by kernel_rfl) (by kernel_rfl) (fun _ _ _ h => h) (Or.inl ⟨by rfl, ?hy54⟩) (by assumption) ?hr54
        case hy54 => (intro w hSw; (try dsimp only at hSw); go_simp; (try with_reducible rfl))
        try simp only [Act.put, List.setIfInBounds_toArray, List.set_cons_zero, List.set_cons_succ]
        refine wpAnyH_take (i := 13) (oi := ({ dst := some 40, op := Op.fieldAddr 34 (Operand.tmp 9) 5, type := 0, pos := "law.go:64", after := #[{ on := 12, ground := Ground.guard }], guard := some (12, false) } : Oper)) (v := undef) rfl (by kernel_rfl) (by kernel_rfl) (by kernel_rfl) (fun _ _ _ h => h) (Or.inr ⟨by rfl, rfl⟩) (by assumption) ?_
        try simp only [Act.put, List.setIfInBounds_toArray, List.set_cons_zero, List.set_cons_succ]
        refine wpAnyH_take (i := 14) (oi := ({ dst := some 41, op := Op.load 9 (Operand.tmp 40), type := 9, pos := "law.go:64", after := #[{ on := 13, ground := Ground.data }, { on := 12, ground := Ground.guard }], guard := some (12, false) } : Oper)) (v := undef) rfl (by kernel_rfl) (by kernel_rfl) (by kernel_rfl) (fun _ _ _ h => h) (Or.inr ⟨by rfl, rfl⟩) (by assumption) ?_
        try simp only [Act.put, List.setIfInBounds_toArray, List.set_cons_zero, List.set_cons_succ]
        refine wpAnyH_take (i := 15) (oi := ({ dst := some 42, op := Op.move (Operand.tmp 1), type := 40, pos := "law.go:64", after := #[{ on := 12, ground := Ground.guard }], guard := some (12, false) } : Oper)) (v := undef) rfl (by kernel_rfl) (by kernel_rfl) (by kernel_rfl) (fun _ _ _ h => h) (Or.inr ⟨by rfl, rfl⟩) (by assumption) ?_
        try simp only [Act.put, List.setIfInBounds_toArray, List.set_cons_zero, List.set_cons_succ]
        refine wpAnyH_take (i := 16) (oi := ({ dst := some 43, op := Op.move (Operand.tmp 8), type := 3, pos := "law.go:64", after := #[{ on := 12, ground := Ground.guard }], guard := some (12, false) } : Oper)) (v := undef) rfl (by kernel_rfl) (by kernel_rfl) (by kernel_rfl) (fun _ _ _ h => h) (Or.inr ⟨by rfl, rfl⟩) (by assumption) ?_
        try simp only [Act.put, List.setIfInBounds_toArray, List.set_cons_zero, List.set_cons_succ]
        refine wpAnyH_take (i := 17) (oi := ({ dst := some 44, op := Op.indexAddr 40 (Operand.tmp 42) (Operand.tmp 43), type := 0, pos := "law.go:64", after := #[{ on := 15, ground := Ground.data }, { on := 16, ground := Ground.data }, { on := 12, ground := Ground.guard }], guard := some (12, false) } : Oper)) (v := undef) rfl (by kernel_rfl) (by kernel_rfl) (by kernel_rfl) (fun _ _ _ h => h) (Or.inr ⟨by rfl, rfl⟩) (by assumption) ?_
        try simp only [Act.put, List.setIfInBounds_toArray, List.set_cons_zero, List.set_cons_succ]
        refine wpAnyH_take (i := 18) (oi := ({ dst := some 45, op := Op.fieldAddr 56 (Operand.tmp 44) 1, type := 0, pos := "law.go:64", after := #[{ on := 17, ground := Ground.data }, { on := 12, ground := Ground.guard }], guard := some (12, false) } : Oper)) (v := undef) rfl (by kernel_rfl) (by kernel_rfl) (by kernel_rfl) (fun _ _ _ h => h) (Or.inr ⟨by rfl, rfl⟩) (by assumption) ?_
        try simp only [Act.put, List.setIfInBounds_toArray, List.set_cons_zero, List.set_cons_succ]
        refine wpAnyH_take (i := 19) (oi := ({ dst := some 46, op := Op.load 9 (Operand.tmp 45), type := 9, pos := "law.go:64", after := #[{ on := 18, ground := Ground.data }, { on := 12, ground := Ground.guard }], guard := some (12, false) } : Oper)) (v := undef) rfl (by kernel_rfl) (by kernel_rfl) (by kernel_rfl) (fun _ _ _ h => h) (Or.inr ⟨by rfl, rfl⟩) (by assumption) ?_
        try simp only [Act.put, List.setIfInBounds_toArray, List.set_cons_zero, List.set_cons_succ]
        refine wpAnyH_take (i := 20) (oi := ({ dst := some 47, op := Op.binOp BinOp.neq 9 (Operand.tmp 41) (Operand.tmp 46) 9, type := 4, pos := "law.go:64", after := #[{ on := 14, ground := Ground.data }, { on := 19, ground := Ground.data }, { on := 12, ground := Ground.guard }], guard := some (12, false) } : Oper)) (v := undef) rfl (by kernel_rfl) (by kernel_rfl) (by kernel_rfl) (fun _ _ _ h => h) (Or.inr ⟨by rfl, rfl⟩) (by assumption) ?_
        try simp only [Act.put, List.setIfInBounds_toArray, List.set_cons_zero, List.set_cons_succ]
        refine wpAnyH_take (i := 21) (oi := ({ dst := some 48, op := Op.pick (Operand.tmp 39) (Operand.const (Value.bool true)) (Operand.tmp 47), type := 4, pos := "law.go:64", after := #[{ on := 12, ground := Ground.data }, { on := 20, ground := Ground.data }], guard := none } : Oper)) (v := ?hv55) rfl (by kernel_rfl) (by kernel_rfl) (by kernel_rfl) (fun _ _ _ h => h) (Or.inl ⟨by rfl, ?hy55⟩) (by assumption) ?hr55
        case hy55 => (intro w hSw; (try dsimp only at hSw); go_simp; (try with_reducible rfl))
        try simp only [Act.put, List.setIfInBounds_toArray, List.set_cons_zero, List.set_cons_succ]
        refine wpAnyH_take (i := 22) (oi := ({ dst := some 49, op := Op.move (Operand.tmp 48), type := 4, pos := "law.go:64", after := #[{ on := 21, ground := Ground.data }, { on := 12, ground := Ground.chain }], guard := none } : Oper)) (v := ?hv56) rfl (by kernel_rfl) (by kernel_rfl) (by kernel_rfl) (fun _ _ _ h => h) (Or.inl ⟨by rfl, ?hy56⟩) (by assumption) ?hr56
        case hy56 => (intro w hSw; (try dsimp only at hSw); go_simp; (try with_reducible rfl))
        try simp only [Act.put, List.setIfInBounds_toArray, List.set_cons_zero, List.set_cons_succ]
        refine wpAnyH_take (i := 23) (oi := ({ dst := some 50, op := Op.fieldAddr 34 (Operand.tmp 9) 1, type := 0, pos := "law.go:64", after := #[{ on := 22, ground := Ground.guard }], guard := some (22, false) } : Oper)) (v := undef) rfl (by kernel_rfl) (by kernel_rfl) (by kernel_rfl) (fun _ _ _ h => h) (Or.inr ⟨by rfl, rfl⟩) (by assumption) ?_
        try simp only [Act.put, List.setIfInBounds_toArray, List.set_cons_zero, List.set_cons_succ]
        refine wpAnyH_take (i := 24) (oi := ({ dst := some 51, op := Op.load 9 (Operand.tmp 50), type := 9, pos := "law.go:64", after := #[{ on := 23, ground := Ground.data }, { on := 22, ground := Ground.guard }], guard := some (22, false) } : Oper)) (v := undef) rfl (by kernel_rfl) (by kernel_rfl) (by kernel_rfl) (fun _ _ _ h => h) (Or.inr ⟨by rfl, rfl⟩) (by assumption) ?_
        try simp only [Act.put, List.setIfInBounds_toArray, List.set_cons_zero, List.set_cons_succ]
        refine wpAnyH_take (i := 25) (oi := ({ dst := some 52, op := Op.move (Operand.tmp 2), type := 9, pos := "law.go:64", after := #[{ on := 22, ground := Ground.guard }], guard := some (22, false) } : Oper)) (v := undef) rfl (by kernel_rfl) (by kernel_rfl) (by kernel_rfl) (fun _ _ _ h => h) (Or.inr ⟨by rfl, rfl⟩) (by assumption) ?_
        try simp only [Act.put, List.setIfInBounds_toArray, List.set_cons_zero, List.set_cons_succ]
        refine wpAnyH_take (i := 26) (oi := ({ dst := some 53, op := Op.binOp BinOp.neq 9 (Operand.tmp 51) (Operand.tmp 52) 9, type := 4, pos := "law.go:64", after := #[{ on := 24, ground := Ground.data }, { on := 25, ground := Ground.data }, { on := 22, ground := Ground.guard }], guard := some (22, false) } : Oper)) (v := undef) rfl (by kernel_rfl) (by kernel_rfl) (by kernel_rfl) (fun _ _ _ h => h) (Or.inr ⟨by rfl, rfl⟩) (by assumption) ?_
        try simp only [Act.put, List.setIfInBounds_toArray, List.set_cons_zero, List.set_cons_succ]
        refine wpAnyH_take (i := 27) (oi := ({ dst := some 54, op := Op.pick (Operand.tmp 49) (Operand.const (Value.bool true)) (Operand.tmp 53), type := 4, pos := "law.go:64", after := #[{ on := 22, ground := Ground.data }, { on := 26, ground := Ground.data }], guard := none } : Oper)) (v := ?hv57) rfl (by kernel_rfl) (by kernel_rfl) (by kernel_rfl) (fun _ _ _ h => h) (Or.inl ⟨by rfl, ?hy57⟩) (by assumption) ?hr57
        case hy57 => (intro w hSw; (try dsimp only at hSw); go_simp; (try with_reducible rfl))
        try simp only [Act.put, List.setIfInBounds_toArray, List.set_cons_zero, List.set_cons_succ]
        refine wpAnyH_done (by kernel_rfl) ?_ _
        go_wp2
        go_ret
        exact ⟨⟨false, rfl, fun h => by cases h⟩, BW4.out.trans (RB0.out.mono BW4.out.size)⟩
      | some k =>
        rw [hp, show gotE E (some k) = E k from rfl, show (some k : Option Nat).isSome = true from rfl] at CG
        go_upto_region 6 with (first
          | (go_at_call 40; (with_reducible refine (CG.out _ (Below.refl _ _)).mono ?_); rintro e1 w3 ⟨rfl, hb3⟩; have HB3 := Lib.hid hb3; clear hb3)
          | (refine wpList_store_mid rfl 34 _ _ rfl w3.heap.size 0 (cellsE (E k)).toArray rfl rfl (Blk.there (n := 29) (blk_new w3 z29 34) (by decide)) size39 (cellsE_all _) ?_; obtain ⟨w4, hw, hx, hb, hs⟩ := new_event w3 (E k); rw [hw]; have X4 := Lib.hid hx; have Q4 := Lib.hid (HB3.out.trans (hb.mono HB3.out.size)); clear hw hx hb hs)
          | fail)
        have HPs := Lib.hid (fun u (hb : Below w4.heap.size w4 u) => HP0.out u (Q4.out.trans (hb.mono Q4.out.size)))
        have BW4 := Lib.hid (BX.out.trans (Q4.out.mono BX.out.size))
        have XE := Lib.hid (show ∀ u, Below w4.heap.size w4 u → u.cell? ⟨w3.heap.size, 3, none⟩ = some (.int .i64 (E k).e3) ∧ u.cell? ⟨w3.heap.size, 5, none⟩ = some (.string (E k).e5) ∧ u.cell? ⟨w3.heap.size, 1, none⟩ = some (.string (E k).e1) from fun u hb => ⟨(X4.out.below hb).cell (i := 3) rfl, (X4.out.below hb).cell (i := 5) rfl, (X4.out.below hb).cell (i := 1) rfl⟩)
        have HGo := Lib.hid (fun h1 h2 h3 => HG1.out ⟨k, hp, h1, h2, h3⟩)
        clear X4 HG1 hp CG HB3 p0 p1 p2
        generalize (E k).e3 = kd at XE HGo
        generalize (E k).e5 = ke at XE HGo
        generalize (E k).e1 = rm at XE HGo
        generalize w3.heap.size = b3w at XE ⊢
        by_cases c1 : kd = p.k
        · have z1 : (kd == p.k) = true := beq_iff_eq.2 c1
          have z1' : (kd != p.k) = false := by rw [bne_eq_false_iff_eq]; exact c1
          by_cases c2 : ke.toList = p.key.toList
          · have z2 : (ke.toList == p.key.toList) = true := beq_iff_eq.2 c2
            by_cases c3 : rm.toList = room.toList
            · have z3 : (rm.toList == room.toList) = true := beq_iff_eq.2 c3
              have HG2 := Lib.hid (HGo.out c1 c2 c3)
              clear c1 c2 c3 HGo HG
              cases cr with
              | true =>
                have HC2 : Hid (true = (sl.take (jj + 1)).any (isK 1 ⟨#[]⟩)) := Lib.hid (by rw [HA.out, ← HC.out]; rfl)
                refine wp_region_held_drew (S := (fun y => Below w4.heap.size w4 y)) (by kernel_rfl) ((Below.refl w4.heap.size w4).drew) (fun hH0 => ?_)
                generalize hy0 : World.drew _ = y0 at hH0 ⊢
                have RB0 : Hid (Below w4.heap.size w4 y0) := Lib.hid hH0
                clear hy0
                refine wpAnyH_take (i := 0) (oi := ({ dst := some 27, op := Op.move (Operand.tmp 10), type := 4, pos := "law.go:64", after := #[], guard := none } : Oper)) (v := ?hv115) rfl (by kernel_rfl) (by kernel_rfl) (by kernel_rfl) (fun _ _ _ h => h) (Or.inl ⟨by rfl, ?hy115⟩) (by assumption) ?hr115
                case hy115 => (intro w hSw; (try dsimp only at hSw); go_simp; (try with_reducible rfl))
                try simp only [Act.put, List.setIfInBounds_toArray, List.set_cons_zero, List.set_cons_succ]
                refine wpAnyH_take (i := 1) (oi := ({ dst := some 28, op := Op.unOp UnOp.not 4 (Operand.tmp 27), type := 4, pos := "law.go:64", after := #[{ on := 0, ground := Ground.data }], guard := none } : Oper)) (v := ?hv116) rfl (by kernel_rfl) (by kernel_rfl) (by kernel_rfl) (fun _ _ _ h => h) (Or.inl ⟨by rfl, ?hy116⟩) (by assumption) ?hr116
                case hy116 => (intro w hSw; (try dsimp only at hSw); go_simp; (try with_reducible rfl))
                try simp only [Act.put, List.setIfInBounds_toArray, List.set_cons_zero, List.set_cons_succ]
                refine wpAnyH_take (i := 2) (oi := ({ dst := some 29, op := Op.move (Operand.tmp 28), type := 4, pos := "law.go:64", after := #[{ on := 1, ground := Ground.data }], guard := none } : Oper)) (v := ?hv117) rfl (by kernel_rfl) (by kernel_rfl) (by kernel_rfl) (fun _ _ _ h => h) (Or.inl ⟨by rfl, ?hy117⟩) (by assumption) ?hr117
                case hy117 => (intro w hSw; (try dsimp only at hSw); go_simp; (try with_reducible rfl))
                try simp only [Act.put, List.setIfInBounds_toArray, List.set_cons_zero, List.set_cons_succ]
                refine wpAnyH_take (i := 3) (oi := ({ dst := some 30, op := Op.fieldAddr 34 (Operand.tmp 9) 3, type := 0, pos := "law.go:64", after := #[{ on := 2, ground := Ground.guard }], guard := some (2, false) } : Oper)) (v := ?hv118) rfl (by kernel_rfl) (by kernel_rfl) (by kernel_rfl) (fun _ _ _ h => h) (Or.inl ⟨by rfl, ?hy118⟩) (by assumption) ?hr118
                case hy118 => (intro w hSw; (try dsimp only at hSw); go_simp; (try with_reducible rfl))
                try simp only [Act.put, List.setIfInBounds_toArray, List.set_cons_zero, List.set_cons_succ]
                refine wpAnyH_take (i := 4) (oi := ({ dst := some 31, op := Op.load 22 (Operand.tmp 30), type := 22, pos := "law.go:64", after := #[{ on := 3, ground := Ground.data }, { on := 2, ground := Ground.guard }], guard := some (2, false) } : Oper)) (v := .int .i64 kd) rfl (by kernel_rfl) (by kernel_rfl) (by kernel_rfl) (fun _ _ _ h => h) (Or.inl ⟨by rfl, fun w0 hw0 => by obtain ⟨q0, q1, q2⟩ := XE.out w0 hw0; go_simp⟩) (by assumption) ?_
                try simp only [Act.put, List.setIfInBounds_toArray, List.set_cons_zero, List.set_cons_succ]
                refine wpAnyH_take (i := 5) (oi := ({ dst := some 32, op := Op.move (Operand.tmp 1), type := 40, pos := "law.go:64", after := #[{ on := 2, ground := Ground.guard }], guard := some (2, false) } : Oper)) (v := ?hv119) rfl (by kernel_rfl) (by kernel_rfl) (by kernel_rfl) (fun _ _ _ h => h) (Or.inl ⟨by rfl, ?hy119⟩) (by assumption) ?hr119
                case hy119 => (intro w hSw; (try dsimp only at hSw); go_simp; (try with_reducible rfl))
                try simp only [Act.put, List.setIfInBounds_toArray, List.set_cons_zero, List.set_cons_succ]
                refine wpAnyH_take (i := 6) (oi := ({ dst := some 33, op := Op.move (Operand.tmp 8), type := 3, pos := "law.go:64", after := #[{ on := 2, ground := Ground.guard }], guard := some (2, false) } : Oper)) (v := ?hv120) rfl (by kernel_rfl) (by kernel_rfl) (by kernel_rfl) (fun _ _ _ h => h) (Or.inl ⟨by rfl, ?hy120⟩) (by assumption) ?hr120
                case hy120 => (intro w hSw; (try dsimp only at hSw); go_simp; (try with_reducible rfl))
                try simp only [Act.put, List.setIfInBounds_toArray, List.set_cons_zero, List.set_cons_succ]
                refine wpAnyH_take (i := 7) (oi := ({ dst := some 34, op := Op.indexAddr 40 (Operand.tmp 32) (Operand.tmp 33), type := 0, pos := "law.go:64", after := #[{ on := 5, ground := Ground.data }, { on := 6, ground := Ground.data }, { on := 2, ground := Ground.guard }], guard := some (2, false) } : Oper)) (v := ?hv121) rfl (by kernel_rfl) (by kernel_rfl) (by kernel_rfl) (fun _ _ _ h => h) (Or.inl ⟨by rfl, ?hy121⟩) (by assumption) ?hr121
                case hy121 => (intro w hSw; (try dsimp only at hSw); go_simp; (try with_reducible rfl))
                try simp only [Act.put, List.setIfInBounds_toArray, List.set_cons_zero, List.set_cons_succ]
                refine wpAnyH_take (i := 8) (oi := ({ dst := some 35, op := Op.fieldAddr 56 (Operand.tmp 34) 0, type := 0, pos := "law.go:64", after := #[{ on := 7, ground := Ground.data }, { on := 2, ground := Ground.guard }], guard := some (2, false) } : Oper)) (v := ?hv122) rfl (by kernel_rfl) (by kernel_rfl) (by kernel_rfl) (fun _ _ _ h => h) (Or.inl ⟨by rfl, ?hy122⟩) (by assumption) ?hr122
                case hy122 => (intro w hSw; (try dsimp only at hSw); go_simp; (try with_reducible rfl))
                try simp only [Act.put, List.setIfInBounds_toArray, List.set_cons_zero, List.set_cons_succ]
                refine wpAnyH_take (i := 9) (oi := ({ dst := some 36, op := Op.load 22 (Operand.tmp 35), type := 22, pos := "law.go:64", after := #[{ on := 8, ground := Ground.data }, { on := 2, ground := Ground.guard }], guard := some (2, false) } : Oper)) (v := .int .i64 p.k) rfl (by kernel_rfl) (by kernel_rfl) (by kernel_rfl) (fun _ _ _ h => h) (Or.inl ⟨by rfl, fun w0 hw0 => by obtain ⟨q0, q1, q2⟩ := HPs.out w0 hw0; go_simp⟩) (by assumption) ?_
                try simp only [Act.put, List.setIfInBounds_toArray, List.set_cons_zero, List.set_cons_succ]
                refine wpAnyH_take (i := 10) (oi := ({ dst := some 37, op := Op.binOp BinOp.neq 22 (Operand.tmp 31) (Operand.tmp 36) 22, type := 4, pos := "law.go:64", after := #[{ on := 4, ground := Ground.data }, { on := 9, ground := Ground.data }, { on := 2, ground := Ground.guard }], guard := some (2, false) } : Oper)) (v := ?hv123) rfl (by kernel_rfl) (by kernel_rfl) (by kernel_rfl) (fun _ _ _ h => h) (Or.inl ⟨by rfl, ?hy123⟩) (by assumption) ?hr123
                case hy123 => (intro w hSw; (try dsimp only at hSw); go_simp; (try with_reducible rfl))
                try simp only [Act.put, List.setIfInBounds_toArray, List.set_cons_zero, List.set_cons_succ]
                refine wpAnyH_take (i := 11) (oi := ({ dst := some 38, op := Op.pick (Operand.tmp 29) (Operand.const (Value.bool true)) (Operand.tmp 37), type := 4, pos := "law.go:64", after := #[{ on := 2, ground := Ground.data }, { on := 10, ground := Ground.data }], guard := none } : Oper)) (v := ?hv124) rfl (by kernel_rfl) (by kernel_rfl) (by kernel_rfl) (fun _ _ _ h => h) (Or.inl ⟨by rfl, ?hy124⟩) (by assumption) ?hr124
                case hy124 => (intro w hSw; (try dsimp only at hSw); go_simp; (try with_reducible rfl))
                try simp only [Act.put, List.setIfInBounds_toArray, List.set_cons_zero, List.set_cons_succ]
                refine wpAnyH_take (i := 12) (oi := ({ dst := some 39, op := Op.move (Operand.tmp 38), type := 4, pos := "law.go:64", after := #[{ on := 11, ground := Ground.data }, { on := 2, ground := Ground.chain }], guard := none } : Oper)) (v := ?hv125) rfl (by kernel_rfl) (by kernel_rfl) (by kernel_rfl) (fun _ _ _ h => h) (Or.inl ⟨by rfl, ?hy125⟩) (by assumption) ?hr125
                case hy125 => (intro w hSw; (try dsimp only at hSw); go_simp; (try with_reducible rfl))
                try simp only [Act.put, List.setIfInBounds_toArray, List.set_cons_zero, List.set_cons_succ]
                refine wpAnyH_take (i := 13) (oi := ({ dst := some 40, op := Op.fieldAddr 34 (Operand.tmp 9) 5, type := 0, pos := "law.go:64", after := #[{ on := 12, ground := Ground.guard }], guard := some (12, false) } : Oper)) (v := ?hv126) rfl (by kernel_rfl) (by kernel_rfl) (by kernel_rfl) (fun _ _ _ h => h) (Or.inl ⟨by rfl, ?hy126⟩) (by assumption) ?hr126
                case hy126 => (intro w hSw; (try dsimp only at hSw); go_simp; (try with_reducible rfl))
                try simp only [Act.put, List.setIfInBounds_toArray, List.set_cons_zero, List.set_cons_succ]
                refine wpAnyH_take (i := 14) (oi := ({ dst := some 41, op := Op.load 9 (Operand.tmp 40), type := 9, pos := "law.go:64", after := #[{ on := 13, ground := Ground.data }, { on := 12, ground := Ground.guard }], guard := some (12, false) } : Oper)) (v := .string ke) rfl (by kernel_rfl) (by kernel_rfl) (by kernel_rfl) (fun _ _ _ h => h) (Or.inl ⟨by rfl, fun w0 hw0 => by obtain ⟨q0, q1, q2⟩ := XE.out w0 hw0; go_simp⟩) (by assumption) ?_
                try simp only [Act.put, List.setIfInBounds_toArray, List.set_cons_zero, List.set_cons_succ]
                refine wpAnyH_take (i := 15) (oi := ({ dst := some 42, op := Op.move (Operand.tmp 1), type := 40, pos := "law.go:64", after := #[{ on := 12, ground := Ground.guard }], guard := some (12, false) } : Oper)) (v := ?hv127) rfl (by kernel_rfl) (by kernel_rfl) (by kernel_rfl) (fun _ _ _ h => h) (Or.inl ⟨by rfl, ?hy127⟩) (by assumption) ?hr127
                case hy127 => (intro w hSw; (try dsimp only at hSw); go_simp; (try with_reducible rfl))
                try simp only [Act.put, List.setIfInBounds_toArray, List.set_cons_zero, List.set_cons_succ]
                refine wpAnyH_take (i := 16) (oi := ({ dst := some 43, op := Op.move (Operand.tmp 8), type := 3, pos := "law.go:64", after := #[{ on := 12, ground := Ground.guard }], guard := some (12, false) } : Oper)) (v := ?hv128) rfl (by kernel_rfl) (by kernel_rfl) (by kernel_rfl) (fun _ _ _ h => h) (Or.inl ⟨by rfl, ?hy128⟩) (by assumption) ?hr128
                case hy128 => (intro w hSw; (try dsimp only at hSw); go_simp; (try with_reducible rfl))
                try simp only [Act.put, List.setIfInBounds_toArray, List.set_cons_zero, List.set_cons_succ]
                refine wpAnyH_take (i := 17) (oi := ({ dst := some 44, op := Op.indexAddr 40 (Operand.tmp 42) (Operand.tmp 43), type := 0, pos := "law.go:64", after := #[{ on := 15, ground := Ground.data }, { on := 16, ground := Ground.data }, { on := 12, ground := Ground.guard }], guard := some (12, false) } : Oper)) (v := ?hv129) rfl (by kernel_rfl) (by kernel_rfl) (by kernel_rfl) (fun _ _ _ h => h) (Or.inl ⟨by rfl, ?hy129⟩) (by assumption) ?hr129
                case hy129 => (intro w hSw; (try dsimp only at hSw); go_simp; (try with_reducible rfl))
                try simp only [Act.put, List.setIfInBounds_toArray, List.set_cons_zero, List.set_cons_succ]
                refine wpAnyH_take (i := 18) (oi := ({ dst := some 45, op := Op.fieldAddr 56 (Operand.tmp 44) 1, type := 0, pos := "law.go:64", after := #[{ on := 17, ground := Ground.data }, { on := 12, ground := Ground.guard }], guard := some (12, false) } : Oper)) (v := ?hv130) rfl (by kernel_rfl) (by kernel_rfl) (by kernel_rfl) (fun _ _ _ h => h) (Or.inl ⟨by rfl, ?hy130⟩) (by assumption) ?hr130
                case hy130 => (intro w hSw; (try dsimp only at hSw); go_simp; (try with_reducible rfl))
                try simp only [Act.put, List.setIfInBounds_toArray, List.set_cons_zero, List.set_cons_succ]
                refine wpAnyH_take (i := 19) (oi := ({ dst := some 46, op := Op.load 9 (Operand.tmp 45), type := 9, pos := "law.go:64", after := #[{ on := 18, ground := Ground.data }, { on := 12, ground := Ground.guard }], guard := some (12, false) } : Oper)) (v := .string p.key) rfl (by kernel_rfl) (by kernel_rfl) (by kernel_rfl) (fun _ _ _ h => h) (Or.inl ⟨by rfl, fun w0 hw0 => by obtain ⟨q0, q1, q2⟩ := HPs.out w0 hw0; go_simp⟩) (by assumption) ?_
                try simp only [Act.put, List.setIfInBounds_toArray, List.set_cons_zero, List.set_cons_succ]
                refine wpAnyH_take (i := 20) (oi := ({ dst := some 47, op := Op.binOp BinOp.neq 9 (Operand.tmp 41) (Operand.tmp 46) 9, type := 4, pos := "law.go:64", after := #[{ on := 14, ground := Ground.data }, { on := 19, ground := Ground.data }, { on := 12, ground := Ground.guard }], guard := some (12, false) } : Oper)) (v := ?hv131) rfl (by kernel_rfl) (by kernel_rfl) (by kernel_rfl) (fun _ _ _ h => h) (Or.inl ⟨by rfl, ?hy131⟩) (by assumption) ?hr131
                case hy131 => (intro w hSw; (try dsimp only at hSw); go_simp; (try with_reducible rfl))
                try simp only [Act.put, List.setIfInBounds_toArray, List.set_cons_zero, List.set_cons_succ]
                refine wpAnyH_take (i := 21) (oi := ({ dst := some 48, op := Op.pick (Operand.tmp 39) (Operand.const (Value.bool true)) (Operand.tmp 47), type := 4, pos := "law.go:64", after := #[{ on := 12, ground := Ground.data }, { on := 20, ground := Ground.data }], guard := none } : Oper)) (v := ?hv132) rfl (by kernel_rfl) (by kernel_rfl) (by kernel_rfl) (fun _ _ _ h => h) (Or.inl ⟨by rfl, ?hy132⟩) (by assumption) ?hr132
                case hy132 => (intro w hSw; (try dsimp only at hSw); go_simp; (try with_reducible rfl))
                try simp only [Act.put, List.setIfInBounds_toArray, List.set_cons_zero, List.set_cons_succ]
                refine wpAnyH_take (i := 22) (oi := ({ dst := some 49, op := Op.move (Operand.tmp 48), type := 4, pos := "law.go:64", after := #[{ on := 21, ground := Ground.data }, { on := 12, ground := Ground.chain }], guard := none } : Oper)) (v := ?hv133) rfl (by kernel_rfl) (by kernel_rfl) (by kernel_rfl) (fun _ _ _ h => h) (Or.inl ⟨by rfl, ?hy133⟩) (by assumption) ?hr133
                case hy133 => (intro w hSw; (try dsimp only at hSw); go_simp; (try with_reducible rfl))
                try simp only [Act.put, List.setIfInBounds_toArray, List.set_cons_zero, List.set_cons_succ]
                refine wpAnyH_take (i := 23) (oi := ({ dst := some 50, op := Op.fieldAddr 34 (Operand.tmp 9) 1, type := 0, pos := "law.go:64", after := #[{ on := 22, ground := Ground.guard }], guard := some (22, false) } : Oper)) (v := ?hv134) rfl (by kernel_rfl) (by kernel_rfl) (by kernel_rfl) (fun _ _ _ h => h) (Or.inl ⟨by rfl, ?hy134⟩) (by assumption) ?hr134
                case hy134 => (intro w hSw; (try dsimp only at hSw); go_simp; (try with_reducible rfl))
                try simp only [Act.put, List.setIfInBounds_toArray, List.set_cons_zero, List.set_cons_succ]
                refine wpAnyH_take (i := 24) (oi := ({ dst := some 51, op := Op.load 9 (Operand.tmp 50), type := 9, pos := "law.go:64", after := #[{ on := 23, ground := Ground.data }, { on := 22, ground := Ground.guard }], guard := some (22, false) } : Oper)) (v := .string rm) rfl (by kernel_rfl) (by kernel_rfl) (by kernel_rfl) (fun _ _ _ h => h) (Or.inl ⟨by rfl, fun w0 hw0 => by obtain ⟨q0, q1, q2⟩ := XE.out w0 hw0; go_simp⟩) (by assumption) ?_
                try simp only [Act.put, List.setIfInBounds_toArray, List.set_cons_zero, List.set_cons_succ]
                refine wpAnyH_take (i := 25) (oi := ({ dst := some 52, op := Op.move (Operand.tmp 2), type := 9, pos := "law.go:64", after := #[{ on := 22, ground := Ground.guard }], guard := some (22, false) } : Oper)) (v := ?hv135) rfl (by kernel_rfl) (by kernel_rfl) (by kernel_rfl) (fun _ _ _ h => h) (Or.inl ⟨by rfl, ?hy135⟩) (by assumption) ?hr135
                case hy135 => (intro w hSw; (try dsimp only at hSw); go_simp; (try with_reducible rfl))
                try simp only [Act.put, List.setIfInBounds_toArray, List.set_cons_zero, List.set_cons_succ]
                refine wpAnyH_take (i := 26) (oi := ({ dst := some 53, op := Op.binOp BinOp.neq 9 (Operand.tmp 51) (Operand.tmp 52) 9, type := 4, pos := "law.go:64", after := #[{ on := 24, ground := Ground.data }, { on := 25, ground := Ground.data }, { on := 22, ground := Ground.guard }], guard := some (22, false) } : Oper)) (v := ?hv136) rfl (by kernel_rfl) (by kernel_rfl) (by kernel_rfl) (fun _ _ _ h => h) (Or.inl ⟨by rfl, ?hy136⟩) (by assumption) ?hr136
                case hy136 => (intro w hSw; (try dsimp only at hSw); go_simp; (try with_reducible rfl))
                try simp only [Act.put, List.setIfInBounds_toArray, List.set_cons_zero, List.set_cons_succ]
                refine wpAnyH_take (i := 27) (oi := ({ dst := some 54, op := Op.pick (Operand.tmp 49) (Operand.const (Value.bool true)) (Operand.tmp 53), type := 4, pos := "law.go:64", after := #[{ on := 22, ground := Ground.data }, { on := 26, ground := Ground.data }], guard := none } : Oper)) (v := ?hv137) rfl (by kernel_rfl) (by kernel_rfl) (by kernel_rfl) (fun _ _ _ h => h) (Or.inl ⟨by rfl, ?hy137⟩) (by assumption) ?hr137
                case hy137 => (intro w hSw; (try dsimp only at hSw); go_simp; (try with_reducible rfl))
                try simp only [Act.put, List.setIfInBounds_toArray, List.set_cons_zero, List.set_cons_succ]
                refine wpAnyH_done (by kernel_rfl) ?_ _
                obtain ⟨r0, r1, r2⟩ := HPs.out _ RB0.out
                go_wp2
                go_roundg (m - (jj + 1))
                case measure => omega
                case rel => exact ⟨jj + 1, true, by omega, by omega, by go_num, rfl, HC2, HG2, Lib.hid (BX.out.trans ((Q4.out.trans (RB0.out.mono Q4.out.size)).mono BX.out.size))⟩
              | false =>
                by_cases c4 : p.k = 1
                · have y1 : (p.k == 1) = true := beq_iff_eq.2 c4
                  by_cases c5 : p.key.toList = []
                  · have y2 : (p.key.toList == []) = true := beq_iff_eq.2 c5
                    have HC2 : Hid (true = (sl.take (jj + 1)).any (isK 1 ⟨#[]⟩)) := Lib.hid (by rw [HA.out, ← HC.out, show isK 1 ⟨#[]⟩ p = true from decide_eq_true ⟨c4, c5.trans empL.symm⟩]; rfl)
                    clear c4 c5
                    refine wp_region_held_drew (S := (fun y => Below w4.heap.size w4 y)) (by kernel_rfl) ((Below.refl w4.heap.size w4).drew) (fun hH0 => ?_)
                    generalize hy0 : World.drew _ = y0 at hH0 ⊢
                    have RB0 : Hid (Below w4.heap.size w4 y0) := Lib.hid hH0
                    clear hy0
                    refine wpAnyH_take (i := 0) (oi := ({ dst := some 27, op := Op.move (Operand.tmp 10), type := 4, pos := "law.go:64", after := #[], guard := none } : Oper)) (v := ?hv138) rfl (by kernel_rfl) (by kernel_rfl) (by kernel_rfl) (fun _ _ _ h => h) (Or.inl ⟨by rfl, ?hy138⟩) (by assumption) ?hr138
                    case hy138 => (intro w hSw; (try dsimp only at hSw); go_simp; (try with_reducible rfl))
                    try simp only [Act.put, List.setIfInBounds_toArray, List.set_cons_zero, List.set_cons_succ]
                    refine wpAnyH_take (i := 1) (oi := ({ dst := some 28, op := Op.unOp UnOp.not 4 (Operand.tmp 27), type := 4, pos := "law.go:64", after := #[{ on := 0, ground := Ground.data }], guard := none } : Oper)) (v := ?hv139) rfl (by kernel_rfl) (by kernel_rfl) (by kernel_rfl) (fun _ _ _ h => h) (Or.inl ⟨by rfl, ?hy139⟩) (by assumption) ?hr139
                    case hy139 => (intro w hSw; (try dsimp only at hSw); go_simp; (try with_reducible rfl))
                    try simp only [Act.put, List.setIfInBounds_toArray, List.set_cons_zero, List.set_cons_succ]
                    refine wpAnyH_take (i := 2) (oi := ({ dst := some 29, op := Op.move (Operand.tmp 28), type := 4, pos := "law.go:64", after := #[{ on := 1, ground := Ground.data }], guard := none } : Oper)) (v := ?hv140) rfl (by kernel_rfl) (by kernel_rfl) (by kernel_rfl) (fun _ _ _ h => h) (Or.inl ⟨by rfl, ?hy140⟩) (by assumption) ?hr140
                    case hy140 => (intro w hSw; (try dsimp only at hSw); go_simp; (try with_reducible rfl))
                    try simp only [Act.put, List.setIfInBounds_toArray, List.set_cons_zero, List.set_cons_succ]
                    refine wpAnyH_take (i := 3) (oi := ({ dst := some 30, op := Op.fieldAddr 34 (Operand.tmp 9) 3, type := 0, pos := "law.go:64", after := #[{ on := 2, ground := Ground.guard }], guard := some (2, false) } : Oper)) (v := ?hv141) rfl (by kernel_rfl) (by kernel_rfl) (by kernel_rfl) (fun _ _ _ h => h) (Or.inl ⟨by rfl, ?hy141⟩) (by assumption) ?hr141
                    case hy141 => (intro w hSw; (try dsimp only at hSw); go_simp; (try with_reducible rfl))
                    try simp only [Act.put, List.setIfInBounds_toArray, List.set_cons_zero, List.set_cons_succ]
                    refine wpAnyH_take (i := 4) (oi := ({ dst := some 31, op := Op.load 22 (Operand.tmp 30), type := 22, pos := "law.go:64", after := #[{ on := 3, ground := Ground.data }, { on := 2, ground := Ground.guard }], guard := some (2, false) } : Oper)) (v := .int .i64 kd) rfl (by kernel_rfl) (by kernel_rfl) (by kernel_rfl) (fun _ _ _ h => h) (Or.inl ⟨by rfl, fun w0 hw0 => by obtain ⟨q0, q1, q2⟩ := XE.out w0 hw0; go_simp⟩) (by assumption) ?_
                    try simp only [Act.put, List.setIfInBounds_toArray, List.set_cons_zero, List.set_cons_succ]
                    refine wpAnyH_take (i := 5) (oi := ({ dst := some 32, op := Op.move (Operand.tmp 1), type := 40, pos := "law.go:64", after := #[{ on := 2, ground := Ground.guard }], guard := some (2, false) } : Oper)) (v := ?hv142) rfl (by kernel_rfl) (by kernel_rfl) (by kernel_rfl) (fun _ _ _ h => h) (Or.inl ⟨by rfl, ?hy142⟩) (by assumption) ?hr142
                    case hy142 => (intro w hSw; (try dsimp only at hSw); go_simp; (try with_reducible rfl))
                    try simp only [Act.put, List.setIfInBounds_toArray, List.set_cons_zero, List.set_cons_succ]
                    refine wpAnyH_take (i := 6) (oi := ({ dst := some 33, op := Op.move (Operand.tmp 8), type := 3, pos := "law.go:64", after := #[{ on := 2, ground := Ground.guard }], guard := some (2, false) } : Oper)) (v := ?hv143) rfl (by kernel_rfl) (by kernel_rfl) (by kernel_rfl) (fun _ _ _ h => h) (Or.inl ⟨by rfl, ?hy143⟩) (by assumption) ?hr143
                    case hy143 => (intro w hSw; (try dsimp only at hSw); go_simp; (try with_reducible rfl))
                    try simp only [Act.put, List.setIfInBounds_toArray, List.set_cons_zero, List.set_cons_succ]
                    refine wpAnyH_take (i := 7) (oi := ({ dst := some 34, op := Op.indexAddr 40 (Operand.tmp 32) (Operand.tmp 33), type := 0, pos := "law.go:64", after := #[{ on := 5, ground := Ground.data }, { on := 6, ground := Ground.data }, { on := 2, ground := Ground.guard }], guard := some (2, false) } : Oper)) (v := ?hv144) rfl (by kernel_rfl) (by kernel_rfl) (by kernel_rfl) (fun _ _ _ h => h) (Or.inl ⟨by rfl, ?hy144⟩) (by assumption) ?hr144
                    case hy144 => (intro w hSw; (try dsimp only at hSw); go_simp; (try with_reducible rfl))
                    try simp only [Act.put, List.setIfInBounds_toArray, List.set_cons_zero, List.set_cons_succ]
                    refine wpAnyH_take (i := 8) (oi := ({ dst := some 35, op := Op.fieldAddr 56 (Operand.tmp 34) 0, type := 0, pos := "law.go:64", after := #[{ on := 7, ground := Ground.data }, { on := 2, ground := Ground.guard }], guard := some (2, false) } : Oper)) (v := ?hv145) rfl (by kernel_rfl) (by kernel_rfl) (by kernel_rfl) (fun _ _ _ h => h) (Or.inl ⟨by rfl, ?hy145⟩) (by assumption) ?hr145
                    case hy145 => (intro w hSw; (try dsimp only at hSw); go_simp; (try with_reducible rfl))
                    try simp only [Act.put, List.setIfInBounds_toArray, List.set_cons_zero, List.set_cons_succ]
                    refine wpAnyH_take (i := 9) (oi := ({ dst := some 36, op := Op.load 22 (Operand.tmp 35), type := 22, pos := "law.go:64", after := #[{ on := 8, ground := Ground.data }, { on := 2, ground := Ground.guard }], guard := some (2, false) } : Oper)) (v := .int .i64 p.k) rfl (by kernel_rfl) (by kernel_rfl) (by kernel_rfl) (fun _ _ _ h => h) (Or.inl ⟨by rfl, fun w0 hw0 => by obtain ⟨q0, q1, q2⟩ := HPs.out w0 hw0; go_simp⟩) (by assumption) ?_
                    try simp only [Act.put, List.setIfInBounds_toArray, List.set_cons_zero, List.set_cons_succ]
                    refine wpAnyH_take (i := 10) (oi := ({ dst := some 37, op := Op.binOp BinOp.neq 22 (Operand.tmp 31) (Operand.tmp 36) 22, type := 4, pos := "law.go:64", after := #[{ on := 4, ground := Ground.data }, { on := 9, ground := Ground.data }, { on := 2, ground := Ground.guard }], guard := some (2, false) } : Oper)) (v := ?hv146) rfl (by kernel_rfl) (by kernel_rfl) (by kernel_rfl) (fun _ _ _ h => h) (Or.inl ⟨by rfl, ?hy146⟩) (by assumption) ?hr146
                    case hy146 => (intro w hSw; (try dsimp only at hSw); go_simp; (try with_reducible rfl))
                    try simp only [Act.put, List.setIfInBounds_toArray, List.set_cons_zero, List.set_cons_succ]
                    refine wpAnyH_take (i := 11) (oi := ({ dst := some 38, op := Op.pick (Operand.tmp 29) (Operand.const (Value.bool true)) (Operand.tmp 37), type := 4, pos := "law.go:64", after := #[{ on := 2, ground := Ground.data }, { on := 10, ground := Ground.data }], guard := none } : Oper)) (v := ?hv147) rfl (by kernel_rfl) (by kernel_rfl) (by kernel_rfl) (fun _ _ _ h => h) (Or.inl ⟨by rfl, ?hy147⟩) (by assumption) ?hr147
                    case hy147 => (intro w hSw; (try dsimp only at hSw); go_simp; (try with_reducible rfl))
                    try simp only [Act.put, List.setIfInBounds_toArray, List.set_cons_zero, List.set_cons_succ]
                    refine wpAnyH_take (i := 12) (oi := ({ dst := some 39, op := Op.move (Operand.tmp 38), type := 4, pos := "law.go:64", after := #[{ on := 11, ground := Ground.data }, { on := 2, ground := Ground.chain }], guard := none } : Oper)) (v := ?hv148) rfl (by kernel_rfl) (by kernel_rfl) (by kernel_rfl) (fun _ _ _ h => h) (Or.inl ⟨by rfl, ?hy148⟩) (by assumption) ?hr148
                    case hy148 => (intro w hSw; (try dsimp only at hSw); go_simp; (try with_reducible rfl))
                    try simp only [Act.put, List.setIfInBounds_toArray, List.set_cons_zero, List.set_cons_succ]
                    refine wpAnyH_take (i := 13) (oi := ({ dst := some 40, op := Op.fieldAddr 34 (Operand.tmp 9) 5, type := 0, pos := "law.go:64", after := #[{ on := 12, ground := Ground.guard }], guard := some (12, false) } : Oper)) (v := ?hv149) rfl (by kernel_rfl) (by kernel_rfl) (by kernel_rfl) (fun _ _ _ h => h) (Or.inl ⟨by rfl, ?hy149⟩) (by assumption) ?hr149
                    case hy149 => (intro w hSw; (try dsimp only at hSw); go_simp; (try with_reducible rfl))
                    try simp only [Act.put, List.setIfInBounds_toArray, List.set_cons_zero, List.set_cons_succ]
                    refine wpAnyH_take (i := 14) (oi := ({ dst := some 41, op := Op.load 9 (Operand.tmp 40), type := 9, pos := "law.go:64", after := #[{ on := 13, ground := Ground.data }, { on := 12, ground := Ground.guard }], guard := some (12, false) } : Oper)) (v := .string ke) rfl (by kernel_rfl) (by kernel_rfl) (by kernel_rfl) (fun _ _ _ h => h) (Or.inl ⟨by rfl, fun w0 hw0 => by obtain ⟨q0, q1, q2⟩ := XE.out w0 hw0; go_simp⟩) (by assumption) ?_
                    try simp only [Act.put, List.setIfInBounds_toArray, List.set_cons_zero, List.set_cons_succ]
                    refine wpAnyH_take (i := 15) (oi := ({ dst := some 42, op := Op.move (Operand.tmp 1), type := 40, pos := "law.go:64", after := #[{ on := 12, ground := Ground.guard }], guard := some (12, false) } : Oper)) (v := ?hv150) rfl (by kernel_rfl) (by kernel_rfl) (by kernel_rfl) (fun _ _ _ h => h) (Or.inl ⟨by rfl, ?hy150⟩) (by assumption) ?hr150
                    case hy150 => (intro w hSw; (try dsimp only at hSw); go_simp; (try with_reducible rfl))
                    try simp only [Act.put, List.setIfInBounds_toArray, List.set_cons_zero, List.set_cons_succ]
                    refine wpAnyH_take (i := 16) (oi := ({ dst := some 43, op := Op.move (Operand.tmp 8), type := 3, pos := "law.go:64", after := #[{ on := 12, ground := Ground.guard }], guard := some (12, false) } : Oper)) (v := ?hv151) rfl (by kernel_rfl) (by kernel_rfl) (by kernel_rfl) (fun _ _ _ h => h) (Or.inl ⟨by rfl, ?hy151⟩) (by assumption) ?hr151
                    case hy151 => (intro w hSw; (try dsimp only at hSw); go_simp; (try with_reducible rfl))
                    try simp only [Act.put, List.setIfInBounds_toArray, List.set_cons_zero, List.set_cons_succ]
                    refine wpAnyH_take (i := 17) (oi := ({ dst := some 44, op := Op.indexAddr 40 (Operand.tmp 42) (Operand.tmp 43), type := 0, pos := "law.go:64", after := #[{ on := 15, ground := Ground.data }, { on := 16, ground := Ground.data }, { on := 12, ground := Ground.guard }], guard := some (12, false) } : Oper)) (v := ?hv152) rfl (by kernel_rfl) (by kernel_rfl) (by kernel_rfl) (fun _ _ _ h => h) (Or.inl ⟨by rfl, ?hy152⟩) (by assumption) ?hr152
                    case hy152 => (intro w hSw; (try dsimp only at hSw); go_simp; (try with_reducible rfl))
                    try simp only [Act.put, List.setIfInBounds_toArray, List.set_cons_zero, List.set_cons_succ]
                    refine wpAnyH_take (i := 18) (oi := ({ dst := some 45, op := Op.fieldAddr 56 (Operand.tmp 44) 1, type := 0, pos := "law.go:64", after := #[{ on := 17, ground := Ground.data }, { on := 12, ground := Ground.guard }], guard := some (12, false) } : Oper)) (v := ?hv153) rfl (by kernel_rfl) (by kernel_rfl) (by kernel_rfl) (fun _ _ _ h => h) (Or.inl ⟨by rfl, ?hy153⟩) (by assumption) ?hr153
                    case hy153 => (intro w hSw; (try dsimp only at hSw); go_simp; (try with_reducible rfl))
                    try simp only [Act.put, List.setIfInBounds_toArray, List.set_cons_zero, List.set_cons_succ]
                    refine wpAnyH_take (i := 19) (oi := ({ dst := some 46, op := Op.load 9 (Operand.tmp 45), type := 9, pos := "law.go:64", after := #[{ on := 18, ground := Ground.data }, { on := 12, ground := Ground.guard }], guard := some (12, false) } : Oper)) (v := .string p.key) rfl (by kernel_rfl) (by kernel_rfl) (by kernel_rfl) (fun _ _ _ h => h) (Or.inl ⟨by rfl, fun w0 hw0 => by obtain ⟨q0, q1, q2⟩ := HPs.out w0 hw0; go_simp⟩) (by assumption) ?_
                    try simp only [Act.put, List.setIfInBounds_toArray, List.set_cons_zero, List.set_cons_succ]
                    refine wpAnyH_take (i := 20) (oi := ({ dst := some 47, op := Op.binOp BinOp.neq 9 (Operand.tmp 41) (Operand.tmp 46) 9, type := 4, pos := "law.go:64", after := #[{ on := 14, ground := Ground.data }, { on := 19, ground := Ground.data }, { on := 12, ground := Ground.guard }], guard := some (12, false) } : Oper)) (v := ?hv154) rfl (by kernel_rfl) (by kernel_rfl) (by kernel_rfl) (fun _ _ _ h => h) (Or.inl ⟨by rfl, ?hy154⟩) (by assumption) ?hr154
                    case hy154 => (intro w hSw; (try dsimp only at hSw); go_simp; (try with_reducible rfl))
                    try simp only [Act.put, List.setIfInBounds_toArray, List.set_cons_zero, List.set_cons_succ]
                    refine wpAnyH_take (i := 21) (oi := ({ dst := some 48, op := Op.pick (Operand.tmp 39) (Operand.const (Value.bool true)) (Operand.tmp 47), type := 4, pos := "law.go:64", after := #[{ on := 12, ground := Ground.data }, { on := 20, ground := Ground.data }], guard := none } : Oper)) (v := ?hv155) rfl (by kernel_rfl) (by kernel_rfl) (by kernel_rfl) (fun _ _ _ h => h) (Or.inl ⟨by rfl, ?hy155⟩) (by assumption) ?hr155
                    case hy155 => (intro w hSw; (try dsimp only at hSw); go_simp; (try with_reducible rfl))
                    try simp only [Act.put, List.setIfInBounds_toArray, List.set_cons_zero, List.set_cons_succ]
                    refine wpAnyH_take (i := 22) (oi := ({ dst := some 49, op := Op.move (Operand.tmp 48), type := 4, pos := "law.go:64", after := #[{ on := 21, ground := Ground.data }, { on := 12, ground := Ground.chain }], guard := none } : Oper)) (v := ?hv156) rfl (by kernel_rfl) (by kernel_rfl) (by kernel_rfl) (fun _ _ _ h => h) (Or.inl ⟨by rfl, ?hy156⟩) (by assumption) ?hr156
                    case hy156 => (intro w hSw; (try dsimp only at hSw); go_simp; (try with_reducible rfl))
                    try simp only [Act.put, List.setIfInBounds_toArray, List.set_cons_zero, List.set_cons_succ]
                    refine wpAnyH_take (i := 23) (oi := ({ dst := some 50, op := Op.fieldAddr 34 (Operand.tmp 9) 1, type := 0, pos := "law.go:64", after := #[{ on := 22, ground := Ground.guard }], guard := some (22, false) } : Oper)) (v := ?hv157) rfl (by kernel_rfl) (by kernel_rfl) (by kernel_rfl) (fun _ _ _ h => h) (Or.inl ⟨by rfl, ?hy157⟩) (by assumption) ?hr157
                    case hy157 => (intro w hSw; (try dsimp only at hSw); go_simp; (try with_reducible rfl))
                    try simp only [Act.put, List.setIfInBounds_toArray, List.set_cons_zero, List.set_cons_succ]
                    refine wpAnyH_take (i := 24) (oi := ({ dst := some 51, op := Op.load 9 (Operand.tmp 50), type := 9, pos := "law.go:64", after := #[{ on := 23, ground := Ground.data }, { on := 22, ground := Ground.guard }], guard := some (22, false) } : Oper)) (v := .string rm) rfl (by kernel_rfl) (by kernel_rfl) (by kernel_rfl) (fun _ _ _ h => h) (Or.inl ⟨by rfl, fun w0 hw0 => by obtain ⟨q0, q1, q2⟩ := XE.out w0 hw0; go_simp⟩) (by assumption) ?_
                    try simp only [Act.put, List.setIfInBounds_toArray, List.set_cons_zero, List.set_cons_succ]
                    refine wpAnyH_take (i := 25) (oi := ({ dst := some 52, op := Op.move (Operand.tmp 2), type := 9, pos := "law.go:64", after := #[{ on := 22, ground := Ground.guard }], guard := some (22, false) } : Oper)) (v := ?hv158) rfl (by kernel_rfl) (by kernel_rfl) (by kernel_rfl) (fun _ _ _ h => h) (Or.inl ⟨by rfl, ?hy158⟩) (by assumption) ?hr158
                    case hy158 => (intro w hSw; (try dsimp only at hSw); go_simp; (try with_reducible rfl))
                    try simp only [Act.put, List.setIfInBounds_toArray, List.set_cons_zero, List.set_cons_succ]
                    refine wpAnyH_take (i := 26) (oi := ({ dst := some 53, op := Op.binOp BinOp.neq 9 (Operand.tmp 51) (Operand.tmp 52) 9, type := 4, pos := "law.go:64", after := #[{ on := 24, ground := Ground.data }, { on := 25, ground := Ground.data }, { on := 22, ground := Ground.guard }], guard := some (22, false) } : Oper)) (v := ?hv159) rfl (by kernel_rfl) (by kernel_rfl) (by kernel_rfl) (fun _ _ _ h => h) (Or.inl ⟨by rfl, ?hy159⟩) (by assumption) ?hr159
                    case hy159 => (intro w hSw; (try dsimp only at hSw); go_simp; (try with_reducible rfl))
                    try simp only [Act.put, List.setIfInBounds_toArray, List.set_cons_zero, List.set_cons_succ]
                    refine wpAnyH_take (i := 27) (oi := ({ dst := some 54, op := Op.pick (Operand.tmp 49) (Operand.const (Value.bool true)) (Operand.tmp 53), type := 4, pos := "law.go:64", after := #[{ on := 22, ground := Ground.data }, { on := 26, ground := Ground.data }], guard := none } : Oper)) (v := ?hv160) rfl (by kernel_rfl) (by kernel_rfl) (by kernel_rfl) (fun _ _ _ h => h) (Or.inl ⟨by rfl, ?hy160⟩) (by assumption) ?hr160
                    case hy160 => (intro w hSw; (try dsimp only at hSw); go_simp; (try with_reducible rfl))
                    try simp only [Act.put, List.setIfInBounds_toArray, List.set_cons_zero, List.set_cons_succ]
                    refine wpAnyH_done (by kernel_rfl) ?_ _
                    obtain ⟨r0, r1, r2⟩ := HPs.out _ RB0.out
                    go_wp2
                    go_roundg (m - (jj + 1))
                    case measure => omega
                    case rel => exact ⟨jj + 1, true, by omega, by omega, by go_num, rfl, HC2, HG2, Lib.hid (BX.out.trans ((Q4.out.trans (RB0.out.mono Q4.out.size)).mono BX.out.size))⟩
                  · have y2 : (p.key.toList == []) = false := beq_eq_false_iff_ne.2 c5
                    have HC2 : Hid (false = (sl.take (jj + 1)).any (isK 1 ⟨#[]⟩)) := Lib.hid (by rw [HA.out, ← HC.out, show isK 1 ⟨#[]⟩ p = false from decide_eq_false (fun h => c5 (h.2.trans empL))]; rfl)
                    clear c4 c5
                    refine wp_region_held_drew (S := (fun y => Below w4.heap.size w4 y)) (by kernel_rfl) ((Below.refl w4.heap.size w4).drew) (fun hH0 => ?_)
                    generalize hy0 : World.drew _ = y0 at hH0 ⊢
                    have RB0 : Hid (Below w4.heap.size w4 y0) := Lib.hid hH0
                    clear hy0
                    refine wpAnyH_take (i := 0) (oi := ({ dst := some 27, op := Op.move (Operand.tmp 10), type := 4, pos := "law.go:64", after := #[], guard := none } : Oper)) (v := ?hv161) rfl (by kernel_rfl) (by kernel_rfl) (by kernel_rfl) (fun _ _ _ h => h) (Or.inl ⟨by rfl, ?hy161⟩) (by assumption) ?hr161
                    case hy161 => (intro w hSw; (try dsimp only at hSw); go_simp; (try with_reducible rfl))
                    try simp only [Act.put, List.setIfInBounds_toArray, List.set_cons_zero, List.set_cons_succ]
                    refine wpAnyH_take (i := 1) (oi := ({ dst := some 28, op := Op.unOp UnOp.not 4 (Operand.tmp 27), type := 4, pos := "law.go:64", after := #[{ on := 0, ground := Ground.data }], guard := none } : Oper)) (v := ?hv162) rfl (by kernel_rfl) (by kernel_rfl) (by kernel_rfl) (fun _ _ _ h => h) (Or.inl ⟨by rfl, ?hy162⟩) (by assumption) ?hr162
                    case hy162 => (intro w hSw; (try dsimp only at hSw); go_simp; (try with_reducible rfl))
                    try simp only [Act.put, List.setIfInBounds_toArray, List.set_cons_zero, List.set_cons_succ]
                    refine wpAnyH_take (i := 2) (oi := ({ dst := some 29, op := Op.move (Operand.tmp 28), type := 4, pos := "law.go:64", after := #[{ on := 1, ground := Ground.data }], guard := none } : Oper)) (v := ?hv163) rfl (by kernel_rfl) (by kernel_rfl) (by kernel_rfl) (fun _ _ _ h => h) (Or.inl ⟨by rfl, ?hy163⟩) (by assumption) ?hr163
                    case hy163 => (intro w hSw; (try dsimp only at hSw); go_simp; (try with_reducible rfl))
                    try simp only [Act.put, List.setIfInBounds_toArray, List.set_cons_zero, List.set_cons_succ]
                    refine wpAnyH_take (i := 3) (oi := ({ dst := some 30, op := Op.fieldAddr 34 (Operand.tmp 9) 3, type := 0, pos := "law.go:64", after := #[{ on := 2, ground := Ground.guard }], guard := some (2, false) } : Oper)) (v := ?hv164) rfl (by kernel_rfl) (by kernel_rfl) (by kernel_rfl) (fun _ _ _ h => h) (Or.inl ⟨by rfl, ?hy164⟩) (by assumption) ?hr164
                    case hy164 => (intro w hSw; (try dsimp only at hSw); go_simp; (try with_reducible rfl))
                    try simp only [Act.put, List.setIfInBounds_toArray, List.set_cons_zero, List.set_cons_succ]
                    refine wpAnyH_take (i := 4) (oi := ({ dst := some 31, op := Op.load 22 (Operand.tmp 30), type := 22, pos := "law.go:64", after := #[{ on := 3, ground := Ground.data }, { on := 2, ground := Ground.guard }], guard := some (2, false) } : Oper)) (v := .int .i64 kd) rfl (by kernel_rfl) (by kernel_rfl) (by kernel_rfl) (fun _ _ _ h => h) (Or.inl ⟨by rfl, fun w0 hw0 => by obtain ⟨q0, q1, q2⟩ := XE.out w0 hw0; go_simp⟩) (by assumption) ?_
                    try simp only [Act.put, List.setIfInBounds_toArray, List.set_cons_zero, List.set_cons_succ]
                    refine wpAnyH_take (i := 5) (oi := ({ dst := some 32, op := Op.move (Operand.tmp 1), type := 40, pos := "law.go:64", after := #[{ on := 2, ground := Ground.guard }], guard := some (2, false) } : Oper)) (v := ?hv165) rfl (by kernel_rfl) (by kernel_rfl) (by kernel_rfl) (fun _ _ _ h => h) (Or.inl ⟨by rfl, ?hy165⟩) (by assumption) ?hr165
                    case hy165 => (intro w hSw; (try dsimp only at hSw); go_simp; (try with_reducible rfl))
                    try simp only [Act.put, List.setIfInBounds_toArray, List.set_cons_zero, List.set_cons_succ]
                    refine wpAnyH_take (i := 6) (oi := ({ dst := some 33, op := Op.move (Operand.tmp 8), type := 3, pos := "law.go:64", after := #[{ on := 2, ground := Ground.guard }], guard := some (2, false) } : Oper)) (v := ?hv166) rfl (by kernel_rfl) (by kernel_rfl) (by kernel_rfl) (fun _ _ _ h => h) (Or.inl ⟨by rfl, ?hy166⟩) (by assumption) ?hr166
                    case hy166 => (intro w hSw; (try dsimp only at hSw); go_simp; (try with_reducible rfl))
                    try simp only [Act.put, List.setIfInBounds_toArray, List.set_cons_zero, List.set_cons_succ]
                    refine wpAnyH_take (i := 7) (oi := ({ dst := some 34, op := Op.indexAddr 40 (Operand.tmp 32) (Operand.tmp 33), type := 0, pos := "law.go:64", after := #[{ on := 5, ground := Ground.data }, { on := 6, ground := Ground.data }, { on := 2, ground := Ground.guard }], guard := some (2, false) } : Oper)) (v := ?hv167) rfl (by kernel_rfl) (by kernel_rfl) (by kernel_rfl) (fun _ _ _ h => h) (Or.inl ⟨by rfl, ?hy167⟩) (by assumption) ?hr167
                    case hy167 => (intro w hSw; (try dsimp only at hSw); go_simp; (try with_reducible rfl))
                    try simp only [Act.put, List.setIfInBounds_toArray, List.set_cons_zero, List.set_cons_succ]
                    refine wpAnyH_take (i := 8) (oi := ({ dst := some 35, op := Op.fieldAddr 56 (Operand.tmp 34) 0, type := 0, pos := "law.go:64", after := #[{ on := 7, ground := Ground.data }, { on := 2, ground := Ground.guard }], guard := some (2, false) } : Oper)) (v := ?hv168) rfl (by kernel_rfl) (by kernel_rfl) (by kernel_rfl) (fun _ _ _ h => h) (Or.inl ⟨by rfl, ?hy168⟩) (by assumption) ?hr168
                    case hy168 => (intro w hSw; (try dsimp only at hSw); go_simp; (try with_reducible rfl))
                    try simp only [Act.put, List.setIfInBounds_toArray, List.set_cons_zero, List.set_cons_succ]
                    refine wpAnyH_take (i := 9) (oi := ({ dst := some 36, op := Op.load 22 (Operand.tmp 35), type := 22, pos := "law.go:64", after := #[{ on := 8, ground := Ground.data }, { on := 2, ground := Ground.guard }], guard := some (2, false) } : Oper)) (v := .int .i64 p.k) rfl (by kernel_rfl) (by kernel_rfl) (by kernel_rfl) (fun _ _ _ h => h) (Or.inl ⟨by rfl, fun w0 hw0 => by obtain ⟨q0, q1, q2⟩ := HPs.out w0 hw0; go_simp⟩) (by assumption) ?_
                    try simp only [Act.put, List.setIfInBounds_toArray, List.set_cons_zero, List.set_cons_succ]
                    refine wpAnyH_take (i := 10) (oi := ({ dst := some 37, op := Op.binOp BinOp.neq 22 (Operand.tmp 31) (Operand.tmp 36) 22, type := 4, pos := "law.go:64", after := #[{ on := 4, ground := Ground.data }, { on := 9, ground := Ground.data }, { on := 2, ground := Ground.guard }], guard := some (2, false) } : Oper)) (v := ?hv169) rfl (by kernel_rfl) (by kernel_rfl) (by kernel_rfl) (fun _ _ _ h => h) (Or.inl ⟨by rfl, ?hy169⟩) (by assumption) ?hr169
                    case hy169 => (intro w hSw; (try dsimp only at hSw); go_simp; (try with_reducible rfl))
                    try simp only [Act.put, List.setIfInBounds_toArray, List.set_cons_zero, List.set_cons_succ]
                    refine wpAnyH_take (i := 11) (oi := ({ dst := some 38, op := Op.pick (Operand.tmp 29) (Operand.const (Value.bool true)) (Operand.tmp 37), type := 4, pos := "law.go:64", after := #[{ on := 2, ground := Ground.data }, { on := 10, ground := Ground.data }], guard := none } : Oper)) (v := ?hv170) rfl (by kernel_rfl) (by kernel_rfl) (by kernel_rfl) (fun _ _ _ h => h) (Or.inl ⟨by rfl, ?hy170⟩) (by assumption) ?hr170
                    case hy170 => (intro w hSw; (try dsimp only at hSw); go_simp; (try with_reducible rfl))
                    try simp only [Act.put, List.setIfInBounds_toArray, List.set_cons_zero, List.set_cons_succ]
                    refine wpAnyH_take (i := 12) (oi := ({ dst := some 39, op := Op.move (Operand.tmp 38), type := 4, pos := "law.go:64", after := #[{ on := 11, ground := Ground.data }, { on := 2, ground := Ground.chain }], guard := none } : Oper)) (v := ?hv171) rfl (by kernel_rfl) (by kernel_rfl) (by kernel_rfl) (fun _ _ _ h => h) (Or.inl ⟨by rfl, ?hy171⟩) (by assumption) ?hr171
                    case hy171 => (intro w hSw; (try dsimp only at hSw); go_simp; (try with_reducible rfl))
                    try simp only [Act.put, List.setIfInBounds_toArray, List.set_cons_zero, List.set_cons_succ]
                    refine wpAnyH_take (i := 13) (oi := ({ dst := some 40, op := Op.fieldAddr 34 (Operand.tmp 9) 5, type := 0, pos := "law.go:64", after := #[{ on := 12, ground := Ground.guard }], guard := some (12, false) } : Oper)) (v := ?hv172) rfl (by kernel_rfl) (by kernel_rfl) (by kernel_rfl) (fun _ _ _ h => h) (Or.inl ⟨by rfl, ?hy172⟩) (by assumption) ?hr172
                    case hy172 => (intro w hSw; (try dsimp only at hSw); go_simp; (try with_reducible rfl))
                    try simp only [Act.put, List.setIfInBounds_toArray, List.set_cons_zero, List.set_cons_succ]
                    refine wpAnyH_take (i := 14) (oi := ({ dst := some 41, op := Op.load 9 (Operand.tmp 40), type := 9, pos := "law.go:64", after := #[{ on := 13, ground := Ground.data }, { on := 12, ground := Ground.guard }], guard := some (12, false) } : Oper)) (v := .string ke) rfl (by kernel_rfl) (by kernel_rfl) (by kernel_rfl) (fun _ _ _ h => h) (Or.inl ⟨by rfl, fun w0 hw0 => by obtain ⟨q0, q1, q2⟩ := XE.out w0 hw0; go_simp⟩) (by assumption) ?_
                    try simp only [Act.put, List.setIfInBounds_toArray, List.set_cons_zero, List.set_cons_succ]
                    refine wpAnyH_take (i := 15) (oi := ({ dst := some 42, op := Op.move (Operand.tmp 1), type := 40, pos := "law.go:64", after := #[{ on := 12, ground := Ground.guard }], guard := some (12, false) } : Oper)) (v := ?hv173) rfl (by kernel_rfl) (by kernel_rfl) (by kernel_rfl) (fun _ _ _ h => h) (Or.inl ⟨by rfl, ?hy173⟩) (by assumption) ?hr173
                    case hy173 => (intro w hSw; (try dsimp only at hSw); go_simp; (try with_reducible rfl))
                    try simp only [Act.put, List.setIfInBounds_toArray, List.set_cons_zero, List.set_cons_succ]
                    refine wpAnyH_take (i := 16) (oi := ({ dst := some 43, op := Op.move (Operand.tmp 8), type := 3, pos := "law.go:64", after := #[{ on := 12, ground := Ground.guard }], guard := some (12, false) } : Oper)) (v := ?hv174) rfl (by kernel_rfl) (by kernel_rfl) (by kernel_rfl) (fun _ _ _ h => h) (Or.inl ⟨by rfl, ?hy174⟩) (by assumption) ?hr174
                    case hy174 => (intro w hSw; (try dsimp only at hSw); go_simp; (try with_reducible rfl))
                    try simp only [Act.put, List.setIfInBounds_toArray, List.set_cons_zero, List.set_cons_succ]
                    refine wpAnyH_take (i := 17) (oi := ({ dst := some 44, op := Op.indexAddr 40 (Operand.tmp 42) (Operand.tmp 43), type := 0, pos := "law.go:64", after := #[{ on := 15, ground := Ground.data }, { on := 16, ground := Ground.data }, { on := 12, ground := Ground.guard }], guard := some (12, false) } : Oper)) (v := ?hv175) rfl (by kernel_rfl) (by kernel_rfl) (by kernel_rfl) (fun _ _ _ h => h) (Or.inl ⟨by rfl, ?hy175⟩) (by assumption) ?hr175
                    case hy175 => (intro w hSw; (try dsimp only at hSw); go_simp; (try with_reducible rfl))
                    try simp only [Act.put, List.setIfInBounds_toArray, List.set_cons_zero, List.set_cons_succ]
                    refine wpAnyH_take (i := 18) (oi := ({ dst := some 45, op := Op.fieldAddr 56 (Operand.tmp 44) 1, type := 0, pos := "law.go:64", after := #[{ on := 17, ground := Ground.data }, { on := 12, ground := Ground.guard }], guard := some (12, false) } : Oper)) (v := ?hv176) rfl (by kernel_rfl) (by kernel_rfl) (by kernel_rfl) (fun _ _ _ h => h) (Or.inl ⟨by rfl, ?hy176⟩) (by assumption) ?hr176
                    case hy176 => (intro w hSw; (try dsimp only at hSw); go_simp; (try with_reducible rfl))
                    try simp only [Act.put, List.setIfInBounds_toArray, List.set_cons_zero, List.set_cons_succ]
                    refine wpAnyH_take (i := 19) (oi := ({ dst := some 46, op := Op.load 9 (Operand.tmp 45), type := 9, pos := "law.go:64", after := #[{ on := 18, ground := Ground.data }, { on := 12, ground := Ground.guard }], guard := some (12, false) } : Oper)) (v := .string p.key) rfl (by kernel_rfl) (by kernel_rfl) (by kernel_rfl) (fun _ _ _ h => h) (Or.inl ⟨by rfl, fun w0 hw0 => by obtain ⟨q0, q1, q2⟩ := HPs.out w0 hw0; go_simp⟩) (by assumption) ?_
                    try simp only [Act.put, List.setIfInBounds_toArray, List.set_cons_zero, List.set_cons_succ]
                    refine wpAnyH_take (i := 20) (oi := ({ dst := some 47, op := Op.binOp BinOp.neq 9 (Operand.tmp 41) (Operand.tmp 46) 9, type := 4, pos := "law.go:64", after := #[{ on := 14, ground := Ground.data }, { on := 19, ground := Ground.data }, { on := 12, ground := Ground.guard }], guard := some (12, false) } : Oper)) (v := ?hv177) rfl (by kernel_rfl) (by kernel_rfl) (by kernel_rfl) (fun _ _ _ h => h) (Or.inl ⟨by rfl, ?hy177⟩) (by assumption) ?hr177
                    case hy177 => (intro w hSw; (try dsimp only at hSw); go_simp; (try with_reducible rfl))
                    try simp only [Act.put, List.setIfInBounds_toArray, List.set_cons_zero, List.set_cons_succ]
                    refine wpAnyH_take (i := 21) (oi := ({ dst := some 48, op := Op.pick (Operand.tmp 39) (Operand.const (Value.bool true)) (Operand.tmp 47), type := 4, pos := "law.go:64", after := #[{ on := 12, ground := Ground.data }, { on := 20, ground := Ground.data }], guard := none } : Oper)) (v := ?hv178) rfl (by kernel_rfl) (by kernel_rfl) (by kernel_rfl) (fun _ _ _ h => h) (Or.inl ⟨by rfl, ?hy178⟩) (by assumption) ?hr178
                    case hy178 => (intro w hSw; (try dsimp only at hSw); go_simp; (try with_reducible rfl))
                    try simp only [Act.put, List.setIfInBounds_toArray, List.set_cons_zero, List.set_cons_succ]
                    refine wpAnyH_take (i := 22) (oi := ({ dst := some 49, op := Op.move (Operand.tmp 48), type := 4, pos := "law.go:64", after := #[{ on := 21, ground := Ground.data }, { on := 12, ground := Ground.chain }], guard := none } : Oper)) (v := ?hv179) rfl (by kernel_rfl) (by kernel_rfl) (by kernel_rfl) (fun _ _ _ h => h) (Or.inl ⟨by rfl, ?hy179⟩) (by assumption) ?hr179
                    case hy179 => (intro w hSw; (try dsimp only at hSw); go_simp; (try with_reducible rfl))
                    try simp only [Act.put, List.setIfInBounds_toArray, List.set_cons_zero, List.set_cons_succ]
                    refine wpAnyH_take (i := 23) (oi := ({ dst := some 50, op := Op.fieldAddr 34 (Operand.tmp 9) 1, type := 0, pos := "law.go:64", after := #[{ on := 22, ground := Ground.guard }], guard := some (22, false) } : Oper)) (v := ?hv180) rfl (by kernel_rfl) (by kernel_rfl) (by kernel_rfl) (fun _ _ _ h => h) (Or.inl ⟨by rfl, ?hy180⟩) (by assumption) ?hr180
                    case hy180 => (intro w hSw; (try dsimp only at hSw); go_simp; (try with_reducible rfl))
                    try simp only [Act.put, List.setIfInBounds_toArray, List.set_cons_zero, List.set_cons_succ]
                    refine wpAnyH_take (i := 24) (oi := ({ dst := some 51, op := Op.load 9 (Operand.tmp 50), type := 9, pos := "law.go:64", after := #[{ on := 23, ground := Ground.data }, { on := 22, ground := Ground.guard }], guard := some (22, false) } : Oper)) (v := .string rm) rfl (by kernel_rfl) (by kernel_rfl) (by kernel_rfl) (fun _ _ _ h => h) (Or.inl ⟨by rfl, fun w0 hw0 => by obtain ⟨q0, q1, q2⟩ := XE.out w0 hw0; go_simp⟩) (by assumption) ?_
                    try simp only [Act.put, List.setIfInBounds_toArray, List.set_cons_zero, List.set_cons_succ]
                    refine wpAnyH_take (i := 25) (oi := ({ dst := some 52, op := Op.move (Operand.tmp 2), type := 9, pos := "law.go:64", after := #[{ on := 22, ground := Ground.guard }], guard := some (22, false) } : Oper)) (v := ?hv181) rfl (by kernel_rfl) (by kernel_rfl) (by kernel_rfl) (fun _ _ _ h => h) (Or.inl ⟨by rfl, ?hy181⟩) (by assumption) ?hr181
                    case hy181 => (intro w hSw; (try dsimp only at hSw); go_simp; (try with_reducible rfl))
                    try simp only [Act.put, List.setIfInBounds_toArray, List.set_cons_zero, List.set_cons_succ]
                    refine wpAnyH_take (i := 26) (oi := ({ dst := some 53, op := Op.binOp BinOp.neq 9 (Operand.tmp 51) (Operand.tmp 52) 9, type := 4, pos := "law.go:64", after := #[{ on := 24, ground := Ground.data }, { on := 25, ground := Ground.data }, { on := 22, ground := Ground.guard }], guard := some (22, false) } : Oper)) (v := ?hv182) rfl (by kernel_rfl) (by kernel_rfl) (by kernel_rfl) (fun _ _ _ h => h) (Or.inl ⟨by rfl, ?hy182⟩) (by assumption) ?hr182
                    case hy182 => (intro w hSw; (try dsimp only at hSw); go_simp; (try with_reducible rfl))
                    try simp only [Act.put, List.setIfInBounds_toArray, List.set_cons_zero, List.set_cons_succ]
                    refine wpAnyH_take (i := 27) (oi := ({ dst := some 54, op := Op.pick (Operand.tmp 49) (Operand.const (Value.bool true)) (Operand.tmp 53), type := 4, pos := "law.go:64", after := #[{ on := 22, ground := Ground.data }, { on := 26, ground := Ground.data }], guard := none } : Oper)) (v := ?hv183) rfl (by kernel_rfl) (by kernel_rfl) (by kernel_rfl) (fun _ _ _ h => h) (Or.inl ⟨by rfl, ?hy183⟩) (by assumption) ?hr183
                    case hy183 => (intro w hSw; (try dsimp only at hSw); go_simp; (try with_reducible rfl))
                    try simp only [Act.put, List.setIfInBounds_toArray, List.set_cons_zero, List.set_cons_succ]
                    refine wpAnyH_done (by kernel_rfl) ?_ _
                    obtain ⟨r0, r1, r2⟩ := HPs.out _ RB0.out
                    go_wp2
                    go_roundg (m - (jj + 1))
                    case measure => omega
                    case rel => exact ⟨jj + 1, false, by omega, by omega, by go_num, rfl, HC2, HG2, Lib.hid (BX.out.trans ((Q4.out.trans (RB0.out.mono Q4.out.size)).mono BX.out.size))⟩
                · have y1 : (p.k == 1) = false := beq_eq_false_iff_ne.2 c4
                  have HC2 : Hid (false = (sl.take (jj + 1)).any (isK 1 ⟨#[]⟩)) := Lib.hid (by rw [HA.out, ← HC.out, show isK 1 ⟨#[]⟩ p = false from decide_eq_false (fun h => c4 h.1)]; rfl)
                  clear c4
                  refine wp_region_held_drew (S := (fun y => Below w4.heap.size w4 y)) (by kernel_rfl) ((Below.refl w4.heap.size w4).drew) (fun hH0 => ?_)
                  generalize hy0 : World.drew _ = y0 at hH0 ⊢
                  have RB0 : Hid (Below w4.heap.size w4 y0) := Lib.hid hH0
                  clear hy0
                  refine wpAnyH_take (i := 0) (oi := ({ dst := some 27, op := Op.move (Operand.tmp 10), type := 4, pos := "law.go:64", after := #[], guard := none } : Oper)) (v := ?hv184) rfl (by kernel_rfl) (by kernel_rfl) (by kernel_rfl) (fun _ _ _ h => h) (Or.inl ⟨by rfl, ?hy184⟩) (by assumption) ?hr184
                  case hy184 => (intro w hSw; (try dsimp only at hSw); go_simp; (try with_reducible rfl))
                  try simp only [Act.put, List.setIfInBounds_toArray, List.set_cons_zero, List.set_cons_succ]
                  refine wpAnyH_take (i := 1) (oi := ({ dst := some 28, op := Op.unOp UnOp.not 4 (Operand.tmp 27), type := 4, pos := "law.go:64", after := #[{ on := 0, ground := Ground.data }], guard := none } : Oper)) (v := ?hv185) rfl (by kernel_rfl) (by kernel_rfl) (by kernel_rfl) (fun _ _ _ h => h) (Or.inl ⟨by rfl, ?hy185⟩) (by assumption) ?hr185
                  case hy185 => (intro w hSw; (try dsimp only at hSw); go_simp; (try with_reducible rfl))
                  try simp only [Act.put, List.setIfInBounds_toArray, List.set_cons_zero, List.set_cons_succ]
                  refine wpAnyH_take (i := 2) (oi := ({ dst := some 29, op := Op.move (Operand.tmp 28), type := 4, pos := "law.go:64", after := #[{ on := 1, ground := Ground.data }], guard := none } : Oper)) (v := ?hv186) rfl (by kernel_rfl) (by kernel_rfl) (by kernel_rfl) (fun _ _ _ h => h) (Or.inl ⟨by rfl, ?hy186⟩) (by assumption) ?hr186
                  case hy186 => (intro w hSw; (try dsimp only at hSw); go_simp; (try with_reducible rfl))
                  try simp only [Act.put, List.setIfInBounds_toArray, List.set_cons_zero, List.set_cons_succ]
                  refine wpAnyH_take (i := 3) (oi := ({ dst := some 30, op := Op.fieldAddr 34 (Operand.tmp 9) 3, type := 0, pos := "law.go:64", after := #[{ on := 2, ground := Ground.guard }], guard := some (2, false) } : Oper)) (v := ?hv187) rfl (by kernel_rfl) (by kernel_rfl) (by kernel_rfl) (fun _ _ _ h => h) (Or.inl ⟨by rfl, ?hy187⟩) (by assumption) ?hr187
                  case hy187 => (intro w hSw; (try dsimp only at hSw); go_simp; (try with_reducible rfl))
                  try simp only [Act.put, List.setIfInBounds_toArray, List.set_cons_zero, List.set_cons_succ]
                  refine wpAnyH_take (i := 4) (oi := ({ dst := some 31, op := Op.load 22 (Operand.tmp 30), type := 22, pos := "law.go:64", after := #[{ on := 3, ground := Ground.data }, { on := 2, ground := Ground.guard }], guard := some (2, false) } : Oper)) (v := .int .i64 kd) rfl (by kernel_rfl) (by kernel_rfl) (by kernel_rfl) (fun _ _ _ h => h) (Or.inl ⟨by rfl, fun w0 hw0 => by obtain ⟨q0, q1, q2⟩ := XE.out w0 hw0; go_simp⟩) (by assumption) ?_
                  try simp only [Act.put, List.setIfInBounds_toArray, List.set_cons_zero, List.set_cons_succ]
                  refine wpAnyH_take (i := 5) (oi := ({ dst := some 32, op := Op.move (Operand.tmp 1), type := 40, pos := "law.go:64", after := #[{ on := 2, ground := Ground.guard }], guard := some (2, false) } : Oper)) (v := ?hv188) rfl (by kernel_rfl) (by kernel_rfl) (by kernel_rfl) (fun _ _ _ h => h) (Or.inl ⟨by rfl, ?hy188⟩) (by assumption) ?hr188
                  case hy188 => (intro w hSw; (try dsimp only at hSw); go_simp; (try with_reducible rfl))
                  try simp only [Act.put, List.setIfInBounds_toArray, List.set_cons_zero, List.set_cons_succ]
                  refine wpAnyH_take (i := 6) (oi := ({ dst := some 33, op := Op.move (Operand.tmp 8), type := 3, pos := "law.go:64", after := #[{ on := 2, ground := Ground.guard }], guard := some (2, false) } : Oper)) (v := ?hv189) rfl (by kernel_rfl) (by kernel_rfl) (by kernel_rfl) (fun _ _ _ h => h) (Or.inl ⟨by rfl, ?hy189⟩) (by assumption) ?hr189
                  case hy189 => (intro w hSw; (try dsimp only at hSw); go_simp; (try with_reducible rfl))
                  try simp only [Act.put, List.setIfInBounds_toArray, List.set_cons_zero, List.set_cons_succ]
                  refine wpAnyH_take (i := 7) (oi := ({ dst := some 34, op := Op.indexAddr 40 (Operand.tmp 32) (Operand.tmp 33), type := 0, pos := "law.go:64", after := #[{ on := 5, ground := Ground.data }, { on := 6, ground := Ground.data }, { on := 2, ground := Ground.guard }], guard := some (2, false) } : Oper)) (v := ?hv190) rfl (by kernel_rfl) (by kernel_rfl) (by kernel_rfl) (fun _ _ _ h => h) (Or.inl ⟨by rfl, ?hy190⟩) (by assumption) ?hr190
                  case hy190 => (intro w hSw; (try dsimp only at hSw); go_simp; (try with_reducible rfl))
                  try simp only [Act.put, List.setIfInBounds_toArray, List.set_cons_zero, List.set_cons_succ]
                  refine wpAnyH_take (i := 8) (oi := ({ dst := some 35, op := Op.fieldAddr 56 (Operand.tmp 34) 0, type := 0, pos := "law.go:64", after := #[{ on := 7, ground := Ground.data }, { on := 2, ground := Ground.guard }], guard := some (2, false) } : Oper)) (v := ?hv191) rfl (by kernel_rfl) (by kernel_rfl) (by kernel_rfl) (fun _ _ _ h => h) (Or.inl ⟨by rfl, ?hy191⟩) (by assumption) ?hr191
                  case hy191 => (intro w hSw; (try dsimp only at hSw); go_simp; (try with_reducible rfl))
                  try simp only [Act.put, List.setIfInBounds_toArray, List.set_cons_zero, List.set_cons_succ]
                  refine wpAnyH_take (i := 9) (oi := ({ dst := some 36, op := Op.load 22 (Operand.tmp 35), type := 22, pos := "law.go:64", after := #[{ on := 8, ground := Ground.data }, { on := 2, ground := Ground.guard }], guard := some (2, false) } : Oper)) (v := .int .i64 p.k) rfl (by kernel_rfl) (by kernel_rfl) (by kernel_rfl) (fun _ _ _ h => h) (Or.inl ⟨by rfl, fun w0 hw0 => by obtain ⟨q0, q1, q2⟩ := HPs.out w0 hw0; go_simp⟩) (by assumption) ?_
                  try simp only [Act.put, List.setIfInBounds_toArray, List.set_cons_zero, List.set_cons_succ]
                  refine wpAnyH_take (i := 10) (oi := ({ dst := some 37, op := Op.binOp BinOp.neq 22 (Operand.tmp 31) (Operand.tmp 36) 22, type := 4, pos := "law.go:64", after := #[{ on := 4, ground := Ground.data }, { on := 9, ground := Ground.data }, { on := 2, ground := Ground.guard }], guard := some (2, false) } : Oper)) (v := ?hv192) rfl (by kernel_rfl) (by kernel_rfl) (by kernel_rfl) (fun _ _ _ h => h) (Or.inl ⟨by rfl, ?hy192⟩) (by assumption) ?hr192
                  case hy192 => (intro w hSw; (try dsimp only at hSw); go_simp; (try with_reducible rfl))
                  try simp only [Act.put, List.setIfInBounds_toArray, List.set_cons_zero, List.set_cons_succ]
                  refine wpAnyH_take (i := 11) (oi := ({ dst := some 38, op := Op.pick (Operand.tmp 29) (Operand.const (Value.bool true)) (Operand.tmp 37), type := 4, pos := "law.go:64", after := #[{ on := 2, ground := Ground.data }, { on := 10, ground := Ground.data }], guard := none } : Oper)) (v := ?hv193) rfl (by kernel_rfl) (by kernel_rfl) (by kernel_rfl) (fun _ _ _ h => h) (Or.inl ⟨by rfl, ?hy193⟩) (by assumption) ?hr193
                  case hy193 => (intro w hSw; (try dsimp only at hSw); go_simp; (try with_reducible rfl))
                  try simp only [Act.put, List.setIfInBounds_toArray, List.set_cons_zero, List.set_cons_succ]
                  refine wpAnyH_take (i := 12) (oi := ({ dst := some 39, op := Op.move (Operand.tmp 38), type := 4, pos := "law.go:64", after := #[{ on := 11, ground := Ground.data }, { on := 2, ground := Ground.chain }], guard := none } : Oper)) (v := ?hv194) rfl (by kernel_rfl) (by kernel_rfl) (by kernel_rfl) (fun _ _ _ h => h) (Or.inl ⟨by rfl, ?hy194⟩) (by assumption) ?hr194
                  case hy194 => (intro w hSw; (try dsimp only at hSw); go_simp; (try with_reducible rfl))
                  try simp only [Act.put, List.setIfInBounds_toArray, List.set_cons_zero, List.set_cons_succ]
                  refine wpAnyH_take (i := 13) (oi := ({ dst := some 40, op := Op.fieldAddr 34 (Operand.tmp 9) 5, type := 0, pos := "law.go:64", after := #[{ on := 12, ground := Ground.guard }], guard := some (12, false) } : Oper)) (v := ?hv195) rfl (by kernel_rfl) (by kernel_rfl) (by kernel_rfl) (fun _ _ _ h => h) (Or.inl ⟨by rfl, ?hy195⟩) (by assumption) ?hr195
                  case hy195 => (intro w hSw; (try dsimp only at hSw); go_simp; (try with_reducible rfl))
                  try simp only [Act.put, List.setIfInBounds_toArray, List.set_cons_zero, List.set_cons_succ]
                  refine wpAnyH_take (i := 14) (oi := ({ dst := some 41, op := Op.load 9 (Operand.tmp 40), type := 9, pos := "law.go:64", after := #[{ on := 13, ground := Ground.data }, { on := 12, ground := Ground.guard }], guard := some (12, false) } : Oper)) (v := .string ke) rfl (by kernel_rfl) (by kernel_rfl) (by kernel_rfl) (fun _ _ _ h => h) (Or.inl ⟨by rfl, fun w0 hw0 => by obtain ⟨q0, q1, q2⟩ := XE.out w0 hw0; go_simp⟩) (by assumption) ?_
                  try simp only [Act.put, List.setIfInBounds_toArray, List.set_cons_zero, List.set_cons_succ]
                  refine wpAnyH_take (i := 15) (oi := ({ dst := some 42, op := Op.move (Operand.tmp 1), type := 40, pos := "law.go:64", after := #[{ on := 12, ground := Ground.guard }], guard := some (12, false) } : Oper)) (v := ?hv196) rfl (by kernel_rfl) (by kernel_rfl) (by kernel_rfl) (fun _ _ _ h => h) (Or.inl ⟨by rfl, ?hy196⟩) (by assumption) ?hr196
                  case hy196 => (intro w hSw; (try dsimp only at hSw); go_simp; (try with_reducible rfl))
                  try simp only [Act.put, List.setIfInBounds_toArray, List.set_cons_zero, List.set_cons_succ]
                  refine wpAnyH_take (i := 16) (oi := ({ dst := some 43, op := Op.move (Operand.tmp 8), type := 3, pos := "law.go:64", after := #[{ on := 12, ground := Ground.guard }], guard := some (12, false) } : Oper)) (v := ?hv197) rfl (by kernel_rfl) (by kernel_rfl) (by kernel_rfl) (fun _ _ _ h => h) (Or.inl ⟨by rfl, ?hy197⟩) (by assumption) ?hr197
                  case hy197 => (intro w hSw; (try dsimp only at hSw); go_simp; (try with_reducible rfl))
                  try simp only [Act.put, List.setIfInBounds_toArray, List.set_cons_zero, List.set_cons_succ]
                  refine wpAnyH_take (i := 17) (oi := ({ dst := some 44, op := Op.indexAddr 40 (Operand.tmp 42) (Operand.tmp 43), type := 0, pos := "law.go:64", after := #[{ on := 15, ground := Ground.data }, { on := 16, ground := Ground.data }, { on := 12, ground := Ground.guard }], guard := some (12, false) } : Oper)) (v := ?hv198) rfl (by kernel_rfl) (by kernel_rfl) (by kernel_rfl) (fun _ _ _ h => h) (Or.inl ⟨by rfl, ?hy198⟩) (by assumption) ?hr198
                  case hy198 => (intro w hSw; (try dsimp only at hSw); go_simp; (try with_reducible rfl))
                  try simp only [Act.put, List.setIfInBounds_toArray, List.set_cons_zero, List.set_cons_succ]
                  refine wpAnyH_take (i := 18) (oi := ({ dst := some 45, op := Op.fieldAddr 56 (Operand.tmp 44) 1, type := 0, pos := "law.go:64", after := #[{ on := 17, ground := Ground.data }, { on := 12, ground := Ground.guard }], guard := some (12, false) } : Oper)) (v := ?hv199) rfl (by kernel_rfl) (by kernel_rfl) (by kernel_rfl) (fun _ _ _ h => h) (Or.inl ⟨by rfl, ?hy199⟩) (by assumption) ?hr199
                  case hy199 => (intro w hSw; (try dsimp only at hSw); go_simp; (try with_reducible rfl))
                  try simp only [Act.put, List.setIfInBounds_toArray, List.set_cons_zero, List.set_cons_succ]
                  refine wpAnyH_take (i := 19) (oi := ({ dst := some 46, op := Op.load 9 (Operand.tmp 45), type := 9, pos := "law.go:64", after := #[{ on := 18, ground := Ground.data }, { on := 12, ground := Ground.guard }], guard := some (12, false) } : Oper)) (v := .string p.key) rfl (by kernel_rfl) (by kernel_rfl) (by kernel_rfl) (fun _ _ _ h => h) (Or.inl ⟨by rfl, fun w0 hw0 => by obtain ⟨q0, q1, q2⟩ := HPs.out w0 hw0; go_simp⟩) (by assumption) ?_
                  try simp only [Act.put, List.setIfInBounds_toArray, List.set_cons_zero, List.set_cons_succ]
                  refine wpAnyH_take (i := 20) (oi := ({ dst := some 47, op := Op.binOp BinOp.neq 9 (Operand.tmp 41) (Operand.tmp 46) 9, type := 4, pos := "law.go:64", after := #[{ on := 14, ground := Ground.data }, { on := 19, ground := Ground.data }, { on := 12, ground := Ground.guard }], guard := some (12, false) } : Oper)) (v := ?hv200) rfl (by kernel_rfl) (by kernel_rfl) (by kernel_rfl) (fun _ _ _ h => h) (Or.inl ⟨by rfl, ?hy200⟩) (by assumption) ?hr200
                  case hy200 => (intro w hSw; (try dsimp only at hSw); go_simp; (try with_reducible rfl))
                  try simp only [Act.put, List.setIfInBounds_toArray, List.set_cons_zero, List.set_cons_succ]
                  refine wpAnyH_take (i := 21) (oi := ({ dst := some 48, op := Op.pick (Operand.tmp 39) (Operand.const (Value.bool true)) (Operand.tmp 47), type := 4, pos := "law.go:64", after := #[{ on := 12, ground := Ground.data }, { on := 20, ground := Ground.data }], guard := none } : Oper)) (v := ?hv201) rfl (by kernel_rfl) (by kernel_rfl) (by kernel_rfl) (fun _ _ _ h => h) (Or.inl ⟨by rfl, ?hy201⟩) (by assumption) ?hr201
                  case hy201 => (intro w hSw; (try dsimp only at hSw); go_simp; (try with_reducible rfl))
                  try simp only [Act.put, List.setIfInBounds_toArray, List.set_cons_zero, List.set_cons_succ]
                  refine wpAnyH_take (i := 22) (oi := ({ dst := some 49, op := Op.move (Operand.tmp 48), type := 4, pos := "law.go:64", after := #[{ on := 21, ground := Ground.data }, { on := 12, ground := Ground.chain }], guard := none } : Oper)) (v := ?hv202) rfl (by kernel_rfl) (by kernel_rfl) (by kernel_rfl) (fun _ _ _ h => h) (Or.inl ⟨by rfl, ?hy202⟩) (by assumption) ?hr202
                  case hy202 => (intro w hSw; (try dsimp only at hSw); go_simp; (try with_reducible rfl))
                  try simp only [Act.put, List.setIfInBounds_toArray, List.set_cons_zero, List.set_cons_succ]
                  refine wpAnyH_take (i := 23) (oi := ({ dst := some 50, op := Op.fieldAddr 34 (Operand.tmp 9) 1, type := 0, pos := "law.go:64", after := #[{ on := 22, ground := Ground.guard }], guard := some (22, false) } : Oper)) (v := ?hv203) rfl (by kernel_rfl) (by kernel_rfl) (by kernel_rfl) (fun _ _ _ h => h) (Or.inl ⟨by rfl, ?hy203⟩) (by assumption) ?hr203
                  case hy203 => (intro w hSw; (try dsimp only at hSw); go_simp; (try with_reducible rfl))
                  try simp only [Act.put, List.setIfInBounds_toArray, List.set_cons_zero, List.set_cons_succ]
                  refine wpAnyH_take (i := 24) (oi := ({ dst := some 51, op := Op.load 9 (Operand.tmp 50), type := 9, pos := "law.go:64", after := #[{ on := 23, ground := Ground.data }, { on := 22, ground := Ground.guard }], guard := some (22, false) } : Oper)) (v := .string rm) rfl (by kernel_rfl) (by kernel_rfl) (by kernel_rfl) (fun _ _ _ h => h) (Or.inl ⟨by rfl, fun w0 hw0 => by obtain ⟨q0, q1, q2⟩ := XE.out w0 hw0; go_simp⟩) (by assumption) ?_
                  try simp only [Act.put, List.setIfInBounds_toArray, List.set_cons_zero, List.set_cons_succ]
                  refine wpAnyH_take (i := 25) (oi := ({ dst := some 52, op := Op.move (Operand.tmp 2), type := 9, pos := "law.go:64", after := #[{ on := 22, ground := Ground.guard }], guard := some (22, false) } : Oper)) (v := ?hv204) rfl (by kernel_rfl) (by kernel_rfl) (by kernel_rfl) (fun _ _ _ h => h) (Or.inl ⟨by rfl, ?hy204⟩) (by assumption) ?hr204
                  case hy204 => (intro w hSw; (try dsimp only at hSw); go_simp; (try with_reducible rfl))
                  try simp only [Act.put, List.setIfInBounds_toArray, List.set_cons_zero, List.set_cons_succ]
                  refine wpAnyH_take (i := 26) (oi := ({ dst := some 53, op := Op.binOp BinOp.neq 9 (Operand.tmp 51) (Operand.tmp 52) 9, type := 4, pos := "law.go:64", after := #[{ on := 24, ground := Ground.data }, { on := 25, ground := Ground.data }, { on := 22, ground := Ground.guard }], guard := some (22, false) } : Oper)) (v := ?hv205) rfl (by kernel_rfl) (by kernel_rfl) (by kernel_rfl) (fun _ _ _ h => h) (Or.inl ⟨by rfl, ?hy205⟩) (by assumption) ?hr205
                  case hy205 => (intro w hSw; (try dsimp only at hSw); go_simp; (try with_reducible rfl))
                  try simp only [Act.put, List.setIfInBounds_toArray, List.set_cons_zero, List.set_cons_succ]
                  refine wpAnyH_take (i := 27) (oi := ({ dst := some 54, op := Op.pick (Operand.tmp 49) (Operand.const (Value.bool true)) (Operand.tmp 53), type := 4, pos := "law.go:64", after := #[{ on := 22, ground := Ground.data }, { on := 26, ground := Ground.data }], guard := none } : Oper)) (v := ?hv206) rfl (by kernel_rfl) (by kernel_rfl) (by kernel_rfl) (fun _ _ _ h => h) (Or.inl ⟨by rfl, ?hy206⟩) (by assumption) ?hr206
                  case hy206 => (intro w hSw; (try dsimp only at hSw); go_simp; (try with_reducible rfl))
                  try simp only [Act.put, List.setIfInBounds_toArray, List.set_cons_zero, List.set_cons_succ]
                  refine wpAnyH_done (by kernel_rfl) ?_ _
                  obtain ⟨r0, r1, r2⟩ := HPs.out _ RB0.out
                  go_wp2
                  go_roundg (m - (jj + 1))
                  case measure => omega
                  case rel => exact ⟨jj + 1, false, by omega, by omega, by go_num, rfl, HC2, HG2, Lib.hid (BX.out.trans ((Q4.out.trans (RB0.out.mono Q4.out.size)).mono BX.out.size))⟩
            · have z3 : (rm.toList == room.toList) = false := beq_eq_false_iff_ne.2 c3
              clear c1 c2 c3 HGo HG
              refine wp_region_held_drew (S := (fun y => Below w4.heap.size w4 y)) (by kernel_rfl) ((Below.refl w4.heap.size w4).drew) (fun hH0 => ?_)
              generalize hy0 : World.drew _ = y0 at hH0 ⊢
              have RB0 : Hid (Below w4.heap.size w4 y0) := Lib.hid hH0
              clear hy0
              refine wpAnyH_take (i := 0) (oi := ({ dst := some 27, op := Op.move (Operand.tmp 10), type := 4, pos := "law.go:64", after := #[], guard := none } : Oper)) (v := ?hv92) rfl (by kernel_rfl) (by kernel_rfl) (by kernel_rfl) (fun _ _ _ h => h) (Or.inl ⟨by rfl, ?hy92⟩) (by assumption) ?hr92
              case hy92 => (intro w hSw; (try dsimp only at hSw); go_simp; (try with_reducible rfl))
              try simp only [Act.put, List.setIfInBounds_toArray, List.set_cons_zero, List.set_cons_succ]
              refine wpAnyH_take (i := 1) (oi := ({ dst := some 28, op := Op.unOp UnOp.not 4 (Operand.tmp 27), type := 4, pos := "law.go:64", after := #[{ on := 0, ground := Ground.data }], guard := none } : Oper)) (v := ?hv93) rfl (by kernel_rfl) (by kernel_rfl) (by kernel_rfl) (fun _ _ _ h => h) (Or.inl ⟨by rfl, ?hy93⟩) (by assumption) ?hr93
              case hy93 => (intro w hSw; (try dsimp only at hSw); go_simp; (try with_reducible rfl))
              try simp only [Act.put, List.setIfInBounds_toArray, List.set_cons_zero, List.set_cons_succ]
              refine wpAnyH_take (i := 2) (oi := ({ dst := some 29, op := Op.move (Operand.tmp 28), type := 4, pos := "law.go:64", after := #[{ on := 1, ground := Ground.data }], guard := none } : Oper)) (v := ?hv94) rfl (by kernel_rfl) (by kernel_rfl) (by kernel_rfl) (fun _ _ _ h => h) (Or.inl ⟨by rfl, ?hy94⟩) (by assumption) ?hr94
              case hy94 => (intro w hSw; (try dsimp only at hSw); go_simp; (try with_reducible rfl))
              try simp only [Act.put, List.setIfInBounds_toArray, List.set_cons_zero, List.set_cons_succ]
              refine wpAnyH_take (i := 3) (oi := ({ dst := some 30, op := Op.fieldAddr 34 (Operand.tmp 9) 3, type := 0, pos := "law.go:64", after := #[{ on := 2, ground := Ground.guard }], guard := some (2, false) } : Oper)) (v := ?hv95) rfl (by kernel_rfl) (by kernel_rfl) (by kernel_rfl) (fun _ _ _ h => h) (Or.inl ⟨by rfl, ?hy95⟩) (by assumption) ?hr95
              case hy95 => (intro w hSw; (try dsimp only at hSw); go_simp; (try with_reducible rfl))
              try simp only [Act.put, List.setIfInBounds_toArray, List.set_cons_zero, List.set_cons_succ]
              refine wpAnyH_take (i := 4) (oi := ({ dst := some 31, op := Op.load 22 (Operand.tmp 30), type := 22, pos := "law.go:64", after := #[{ on := 3, ground := Ground.data }, { on := 2, ground := Ground.guard }], guard := some (2, false) } : Oper)) (v := .int .i64 kd) rfl (by kernel_rfl) (by kernel_rfl) (by kernel_rfl) (fun _ _ _ h => h) (Or.inl ⟨by rfl, fun w0 hw0 => by obtain ⟨q0, q1, q2⟩ := XE.out w0 hw0; go_simp⟩) (by assumption) ?_
              try simp only [Act.put, List.setIfInBounds_toArray, List.set_cons_zero, List.set_cons_succ]
              refine wpAnyH_take (i := 5) (oi := ({ dst := some 32, op := Op.move (Operand.tmp 1), type := 40, pos := "law.go:64", after := #[{ on := 2, ground := Ground.guard }], guard := some (2, false) } : Oper)) (v := ?hv96) rfl (by kernel_rfl) (by kernel_rfl) (by kernel_rfl) (fun _ _ _ h => h) (Or.inl ⟨by rfl, ?hy96⟩) (by assumption) ?hr96
              case hy96 => (intro w hSw; (try dsimp only at hSw); go_simp; (try with_reducible rfl))
              try simp only [Act.put, List.setIfInBounds_toArray, List.set_cons_zero, List.set_cons_succ]
              refine wpAnyH_take (i := 6) (oi := ({ dst := some 33, op := Op.move (Operand.tmp 8), type := 3, pos := "law.go:64", after := #[{ on := 2, ground := Ground.guard }], guard := some (2, false) } : Oper)) (v := ?hv97) rfl (by kernel_rfl) (by kernel_rfl) (by kernel_rfl) (fun _ _ _ h => h) (Or.inl ⟨by rfl, ?hy97⟩) (by assumption) ?hr97
              case hy97 => (intro w hSw; (try dsimp only at hSw); go_simp; (try with_reducible rfl))
              try simp only [Act.put, List.setIfInBounds_toArray, List.set_cons_zero, List.set_cons_succ]
              refine wpAnyH_take (i := 7) (oi := ({ dst := some 34, op := Op.indexAddr 40 (Operand.tmp 32) (Operand.tmp 33), type := 0, pos := "law.go:64", after := #[{ on := 5, ground := Ground.data }, { on := 6, ground := Ground.data }, { on := 2, ground := Ground.guard }], guard := some (2, false) } : Oper)) (v := ?hv98) rfl (by kernel_rfl) (by kernel_rfl) (by kernel_rfl) (fun _ _ _ h => h) (Or.inl ⟨by rfl, ?hy98⟩) (by assumption) ?hr98
              case hy98 => (intro w hSw; (try dsimp only at hSw); go_simp; (try with_reducible rfl))
              try simp only [Act.put, List.setIfInBounds_toArray, List.set_cons_zero, List.set_cons_succ]
              refine wpAnyH_take (i := 8) (oi := ({ dst := some 35, op := Op.fieldAddr 56 (Operand.tmp 34) 0, type := 0, pos := "law.go:64", after := #[{ on := 7, ground := Ground.data }, { on := 2, ground := Ground.guard }], guard := some (2, false) } : Oper)) (v := ?hv99) rfl (by kernel_rfl) (by kernel_rfl) (by kernel_rfl) (fun _ _ _ h => h) (Or.inl ⟨by rfl, ?hy99⟩) (by assumption) ?hr99
              case hy99 => (intro w hSw; (try dsimp only at hSw); go_simp; (try with_reducible rfl))
              try simp only [Act.put, List.setIfInBounds_toArray, List.set_cons_zero, List.set_cons_succ]
              refine wpAnyH_take (i := 9) (oi := ({ dst := some 36, op := Op.load 22 (Operand.tmp 35), type := 22, pos := "law.go:64", after := #[{ on := 8, ground := Ground.data }, { on := 2, ground := Ground.guard }], guard := some (2, false) } : Oper)) (v := .int .i64 p.k) rfl (by kernel_rfl) (by kernel_rfl) (by kernel_rfl) (fun _ _ _ h => h) (Or.inl ⟨by rfl, fun w0 hw0 => by obtain ⟨q0, q1, q2⟩ := HPs.out w0 hw0; go_simp⟩) (by assumption) ?_
              try simp only [Act.put, List.setIfInBounds_toArray, List.set_cons_zero, List.set_cons_succ]
              refine wpAnyH_take (i := 10) (oi := ({ dst := some 37, op := Op.binOp BinOp.neq 22 (Operand.tmp 31) (Operand.tmp 36) 22, type := 4, pos := "law.go:64", after := #[{ on := 4, ground := Ground.data }, { on := 9, ground := Ground.data }, { on := 2, ground := Ground.guard }], guard := some (2, false) } : Oper)) (v := ?hv100) rfl (by kernel_rfl) (by kernel_rfl) (by kernel_rfl) (fun _ _ _ h => h) (Or.inl ⟨by rfl, ?hy100⟩) (by assumption) ?hr100
              case hy100 => (intro w hSw; (try dsimp only at hSw); go_simp; (try with_reducible rfl))
              try simp only [Act.put, List.setIfInBounds_toArray, List.set_cons_zero, List.set_cons_succ]
              refine wpAnyH_take (i := 11) (oi := ({ dst := some 38, op := Op.pick (Operand.tmp 29) (Operand.const (Value.bool true)) (Operand.tmp 37), type := 4, pos := "law.go:64", after := #[{ on := 2, ground := Ground.data }, { on := 10, ground := Ground.data }], guard := none } : Oper)) (v := ?hv101) rfl (by kernel_rfl) (by kernel_rfl) (by kernel_rfl) (fun _ _ _ h => h) (Or.inl ⟨by rfl, ?hy101⟩) (by assumption) ?hr101
              case hy101 => (intro w hSw; (try dsimp only at hSw); go_simp; (try with_reducible rfl))
              try simp only [Act.put, List.setIfInBounds_toArray, List.set_cons_zero, List.set_cons_succ]
              refine wpAnyH_take (i := 12) (oi := ({ dst := some 39, op := Op.move (Operand.tmp 38), type := 4, pos := "law.go:64", after := #[{ on := 11, ground := Ground.data }, { on := 2, ground := Ground.chain }], guard := none } : Oper)) (v := ?hv102) rfl (by kernel_rfl) (by kernel_rfl) (by kernel_rfl) (fun _ _ _ h => h) (Or.inl ⟨by rfl, ?hy102⟩) (by assumption) ?hr102
              case hy102 => (intro w hSw; (try dsimp only at hSw); go_simp; (try with_reducible rfl))
              try simp only [Act.put, List.setIfInBounds_toArray, List.set_cons_zero, List.set_cons_succ]
              refine wpAnyH_take (i := 13) (oi := ({ dst := some 40, op := Op.fieldAddr 34 (Operand.tmp 9) 5, type := 0, pos := "law.go:64", after := #[{ on := 12, ground := Ground.guard }], guard := some (12, false) } : Oper)) (v := ?hv103) rfl (by kernel_rfl) (by kernel_rfl) (by kernel_rfl) (fun _ _ _ h => h) (Or.inl ⟨by rfl, ?hy103⟩) (by assumption) ?hr103
              case hy103 => (intro w hSw; (try dsimp only at hSw); go_simp; (try with_reducible rfl))
              try simp only [Act.put, List.setIfInBounds_toArray, List.set_cons_zero, List.set_cons_succ]
              refine wpAnyH_take (i := 14) (oi := ({ dst := some 41, op := Op.load 9 (Operand.tmp 40), type := 9, pos := "law.go:64", after := #[{ on := 13, ground := Ground.data }, { on := 12, ground := Ground.guard }], guard := some (12, false) } : Oper)) (v := .string ke) rfl (by kernel_rfl) (by kernel_rfl) (by kernel_rfl) (fun _ _ _ h => h) (Or.inl ⟨by rfl, fun w0 hw0 => by obtain ⟨q0, q1, q2⟩ := XE.out w0 hw0; go_simp⟩) (by assumption) ?_
              try simp only [Act.put, List.setIfInBounds_toArray, List.set_cons_zero, List.set_cons_succ]
              refine wpAnyH_take (i := 15) (oi := ({ dst := some 42, op := Op.move (Operand.tmp 1), type := 40, pos := "law.go:64", after := #[{ on := 12, ground := Ground.guard }], guard := some (12, false) } : Oper)) (v := ?hv104) rfl (by kernel_rfl) (by kernel_rfl) (by kernel_rfl) (fun _ _ _ h => h) (Or.inl ⟨by rfl, ?hy104⟩) (by assumption) ?hr104
              case hy104 => (intro w hSw; (try dsimp only at hSw); go_simp; (try with_reducible rfl))
              try simp only [Act.put, List.setIfInBounds_toArray, List.set_cons_zero, List.set_cons_succ]
              refine wpAnyH_take (i := 16) (oi := ({ dst := some 43, op := Op.move (Operand.tmp 8), type := 3, pos := "law.go:64", after := #[{ on := 12, ground := Ground.guard }], guard := some (12, false) } : Oper)) (v := ?hv105) rfl (by kernel_rfl) (by kernel_rfl) (by kernel_rfl) (fun _ _ _ h => h) (Or.inl ⟨by rfl, ?hy105⟩) (by assumption) ?hr105
              case hy105 => (intro w hSw; (try dsimp only at hSw); go_simp; (try with_reducible rfl))
              try simp only [Act.put, List.setIfInBounds_toArray, List.set_cons_zero, List.set_cons_succ]
              refine wpAnyH_take (i := 17) (oi := ({ dst := some 44, op := Op.indexAddr 40 (Operand.tmp 42) (Operand.tmp 43), type := 0, pos := "law.go:64", after := #[{ on := 15, ground := Ground.data }, { on := 16, ground := Ground.data }, { on := 12, ground := Ground.guard }], guard := some (12, false) } : Oper)) (v := ?hv106) rfl (by kernel_rfl) (by kernel_rfl) (by kernel_rfl) (fun _ _ _ h => h) (Or.inl ⟨by rfl, ?hy106⟩) (by assumption) ?hr106
              case hy106 => (intro w hSw; (try dsimp only at hSw); go_simp; (try with_reducible rfl))
              try simp only [Act.put, List.setIfInBounds_toArray, List.set_cons_zero, List.set_cons_succ]
              refine wpAnyH_take (i := 18) (oi := ({ dst := some 45, op := Op.fieldAddr 56 (Operand.tmp 44) 1, type := 0, pos := "law.go:64", after := #[{ on := 17, ground := Ground.data }, { on := 12, ground := Ground.guard }], guard := some (12, false) } : Oper)) (v := ?hv107) rfl (by kernel_rfl) (by kernel_rfl) (by kernel_rfl) (fun _ _ _ h => h) (Or.inl ⟨by rfl, ?hy107⟩) (by assumption) ?hr107
              case hy107 => (intro w hSw; (try dsimp only at hSw); go_simp; (try with_reducible rfl))
              try simp only [Act.put, List.setIfInBounds_toArray, List.set_cons_zero, List.set_cons_succ]
              refine wpAnyH_take (i := 19) (oi := ({ dst := some 46, op := Op.load 9 (Operand.tmp 45), type := 9, pos := "law.go:64", after := #[{ on := 18, ground := Ground.data }, { on := 12, ground := Ground.guard }], guard := some (12, false) } : Oper)) (v := .string p.key) rfl (by kernel_rfl) (by kernel_rfl) (by kernel_rfl) (fun _ _ _ h => h) (Or.inl ⟨by rfl, fun w0 hw0 => by obtain ⟨q0, q1, q2⟩ := HPs.out w0 hw0; go_simp⟩) (by assumption) ?_
              try simp only [Act.put, List.setIfInBounds_toArray, List.set_cons_zero, List.set_cons_succ]
              refine wpAnyH_take (i := 20) (oi := ({ dst := some 47, op := Op.binOp BinOp.neq 9 (Operand.tmp 41) (Operand.tmp 46) 9, type := 4, pos := "law.go:64", after := #[{ on := 14, ground := Ground.data }, { on := 19, ground := Ground.data }, { on := 12, ground := Ground.guard }], guard := some (12, false) } : Oper)) (v := ?hv108) rfl (by kernel_rfl) (by kernel_rfl) (by kernel_rfl) (fun _ _ _ h => h) (Or.inl ⟨by rfl, ?hy108⟩) (by assumption) ?hr108
              case hy108 => (intro w hSw; (try dsimp only at hSw); go_simp; (try with_reducible rfl))
              try simp only [Act.put, List.setIfInBounds_toArray, List.set_cons_zero, List.set_cons_succ]
              refine wpAnyH_take (i := 21) (oi := ({ dst := some 48, op := Op.pick (Operand.tmp 39) (Operand.const (Value.bool true)) (Operand.tmp 47), type := 4, pos := "law.go:64", after := #[{ on := 12, ground := Ground.data }, { on := 20, ground := Ground.data }], guard := none } : Oper)) (v := ?hv109) rfl (by kernel_rfl) (by kernel_rfl) (by kernel_rfl) (fun _ _ _ h => h) (Or.inl ⟨by rfl, ?hy109⟩) (by assumption) ?hr109
              case hy109 => (intro w hSw; (try dsimp only at hSw); go_simp; (try with_reducible rfl))
              try simp only [Act.put, List.setIfInBounds_toArray, List.set_cons_zero, List.set_cons_succ]
              refine wpAnyH_take (i := 22) (oi := ({ dst := some 49, op := Op.move (Operand.tmp 48), type := 4, pos := "law.go:64", after := #[{ on := 21, ground := Ground.data }, { on := 12, ground := Ground.chain }], guard := none } : Oper)) (v := ?hv110) rfl (by kernel_rfl) (by kernel_rfl) (by kernel_rfl) (fun _ _ _ h => h) (Or.inl ⟨by rfl, ?hy110⟩) (by assumption) ?hr110
              case hy110 => (intro w hSw; (try dsimp only at hSw); go_simp; (try with_reducible rfl))
              try simp only [Act.put, List.setIfInBounds_toArray, List.set_cons_zero, List.set_cons_succ]
              refine wpAnyH_take (i := 23) (oi := ({ dst := some 50, op := Op.fieldAddr 34 (Operand.tmp 9) 1, type := 0, pos := "law.go:64", after := #[{ on := 22, ground := Ground.guard }], guard := some (22, false) } : Oper)) (v := ?hv111) rfl (by kernel_rfl) (by kernel_rfl) (by kernel_rfl) (fun _ _ _ h => h) (Or.inl ⟨by rfl, ?hy111⟩) (by assumption) ?hr111
              case hy111 => (intro w hSw; (try dsimp only at hSw); go_simp; (try with_reducible rfl))
              try simp only [Act.put, List.setIfInBounds_toArray, List.set_cons_zero, List.set_cons_succ]
              refine wpAnyH_take (i := 24) (oi := ({ dst := some 51, op := Op.load 9 (Operand.tmp 50), type := 9, pos := "law.go:64", after := #[{ on := 23, ground := Ground.data }, { on := 22, ground := Ground.guard }], guard := some (22, false) } : Oper)) (v := .string rm) rfl (by kernel_rfl) (by kernel_rfl) (by kernel_rfl) (fun _ _ _ h => h) (Or.inl ⟨by rfl, fun w0 hw0 => by obtain ⟨q0, q1, q2⟩ := XE.out w0 hw0; go_simp⟩) (by assumption) ?_
              try simp only [Act.put, List.setIfInBounds_toArray, List.set_cons_zero, List.set_cons_succ]
              refine wpAnyH_take (i := 25) (oi := ({ dst := some 52, op := Op.move (Operand.tmp 2), type := 9, pos := "law.go:64", after := #[{ on := 22, ground := Ground.guard }], guard := some (22, false) } : Oper)) (v := ?hv112) rfl (by kernel_rfl) (by kernel_rfl) (by kernel_rfl) (fun _ _ _ h => h) (Or.inl ⟨by rfl, ?hy112⟩) (by assumption) ?hr112
              case hy112 => (intro w hSw; (try dsimp only at hSw); go_simp; (try with_reducible rfl))
              try simp only [Act.put, List.setIfInBounds_toArray, List.set_cons_zero, List.set_cons_succ]
              refine wpAnyH_take (i := 26) (oi := ({ dst := some 53, op := Op.binOp BinOp.neq 9 (Operand.tmp 51) (Operand.tmp 52) 9, type := 4, pos := "law.go:64", after := #[{ on := 24, ground := Ground.data }, { on := 25, ground := Ground.data }, { on := 22, ground := Ground.guard }], guard := some (22, false) } : Oper)) (v := ?hv113) rfl (by kernel_rfl) (by kernel_rfl) (by kernel_rfl) (fun _ _ _ h => h) (Or.inl ⟨by rfl, ?hy113⟩) (by assumption) ?hr113
              case hy113 => (intro w hSw; (try dsimp only at hSw); go_simp; (try with_reducible rfl))
              try simp only [Act.put, List.setIfInBounds_toArray, List.set_cons_zero, List.set_cons_succ]
              refine wpAnyH_take (i := 27) (oi := ({ dst := some 54, op := Op.pick (Operand.tmp 49) (Operand.const (Value.bool true)) (Operand.tmp 53), type := 4, pos := "law.go:64", after := #[{ on := 22, ground := Ground.data }, { on := 26, ground := Ground.data }], guard := none } : Oper)) (v := ?hv114) rfl (by kernel_rfl) (by kernel_rfl) (by kernel_rfl) (fun _ _ _ h => h) (Or.inl ⟨by rfl, ?hy114⟩) (by assumption) ?hr114
              case hy114 => (intro w hSw; (try dsimp only at hSw); go_simp; (try with_reducible rfl))
              try simp only [Act.put, List.setIfInBounds_toArray, List.set_cons_zero, List.set_cons_succ]
              refine wpAnyH_done (by kernel_rfl) ?_ _
              go_wp2
              go_ret
              exact ⟨⟨false, rfl, fun h => by cases h⟩, BW4.out.trans (RB0.out.mono BW4.out.size)⟩
          · have z2 : (ke.toList == p.key.toList) = false := beq_eq_false_iff_ne.2 c2
            clear c1 c2 HGo HG
            refine wp_region_held_drew (S := (fun y => Below w4.heap.size w4 y)) (by kernel_rfl) ((Below.refl w4.heap.size w4).drew) (fun hH0 => ?_)
            generalize hy0 : World.drew _ = y0 at hH0 ⊢
            have RB0 : Hid (Below w4.heap.size w4 y0) := Lib.hid hH0
            clear hy0
            refine wpAnyH_take (i := 0) (oi := ({ dst := some 27, op := Op.move (Operand.tmp 10), type := 4, pos := "law.go:64", after := #[], guard := none } : Oper)) (v := ?hv72) rfl (by kernel_rfl) (by kernel_rfl) (by kernel_rfl) (fun _ _ _ h => h) (Or.inl ⟨by rfl, ?hy72⟩) (by assumption) ?hr72
            case hy72 => (intro w hSw; (try dsimp only at hSw); go_simp; (try with_reducible rfl))
            try simp only [Act.put, List.setIfInBounds_toArray, List.set_cons_zero, List.set_cons_succ]
            refine wpAnyH_take (i := 1) (oi := ({ dst := some 28, op := Op.unOp UnOp.not 4 (Operand.tmp 27), type := 4, pos := "law.go:64", after := #[{ on := 0, ground := Ground.data }], guard := none } : Oper)) (v := ?hv73) rfl (by kernel_rfl) (by kernel_rfl) (by kernel_rfl) (fun _ _ _ h => h) (Or.inl ⟨by rfl, ?hy73⟩) (by assumption) ?hr73
            case hy73 => (intro w hSw; (try dsimp only at hSw); go_simp; (try with_reducible rfl))
            try simp only [Act.put, List.setIfInBounds_toArray, List.set_cons_zero, List.set_cons_succ]
            refine wpAnyH_take (i := 2) (oi := ({ dst := some 29, op := Op.move (Operand.tmp 28), type := 4, pos := "law.go:64", after := #[{ on := 1, ground := Ground.data }], guard := none } : Oper)) (v := ?hv74) rfl (by kernel_rfl) (by kernel_rfl) (by kernel_rfl) (fun _ _ _ h => h) (Or.inl ⟨by rfl, ?hy74⟩) (by assumption) ?hr74
            case hy74 => (intro w hSw; (try dsimp only at hSw); go_simp; (try with_reducible rfl))
            try simp only [Act.put, List.setIfInBounds_toArray, List.set_cons_zero, List.set_cons_succ]
            refine wpAnyH_take (i := 3) (oi := ({ dst := some 30, op := Op.fieldAddr 34 (Operand.tmp 9) 3, type := 0, pos := "law.go:64", after := #[{ on := 2, ground := Ground.guard }], guard := some (2, false) } : Oper)) (v := ?hv75) rfl (by kernel_rfl) (by kernel_rfl) (by kernel_rfl) (fun _ _ _ h => h) (Or.inl ⟨by rfl, ?hy75⟩) (by assumption) ?hr75
            case hy75 => (intro w hSw; (try dsimp only at hSw); go_simp; (try with_reducible rfl))
            try simp only [Act.put, List.setIfInBounds_toArray, List.set_cons_zero, List.set_cons_succ]
            refine wpAnyH_take (i := 4) (oi := ({ dst := some 31, op := Op.load 22 (Operand.tmp 30), type := 22, pos := "law.go:64", after := #[{ on := 3, ground := Ground.data }, { on := 2, ground := Ground.guard }], guard := some (2, false) } : Oper)) (v := .int .i64 kd) rfl (by kernel_rfl) (by kernel_rfl) (by kernel_rfl) (fun _ _ _ h => h) (Or.inl ⟨by rfl, fun w0 hw0 => by obtain ⟨q0, q1, q2⟩ := XE.out w0 hw0; go_simp⟩) (by assumption) ?_
            try simp only [Act.put, List.setIfInBounds_toArray, List.set_cons_zero, List.set_cons_succ]
            refine wpAnyH_take (i := 5) (oi := ({ dst := some 32, op := Op.move (Operand.tmp 1), type := 40, pos := "law.go:64", after := #[{ on := 2, ground := Ground.guard }], guard := some (2, false) } : Oper)) (v := ?hv76) rfl (by kernel_rfl) (by kernel_rfl) (by kernel_rfl) (fun _ _ _ h => h) (Or.inl ⟨by rfl, ?hy76⟩) (by assumption) ?hr76
            case hy76 => (intro w hSw; (try dsimp only at hSw); go_simp; (try with_reducible rfl))
            try simp only [Act.put, List.setIfInBounds_toArray, List.set_cons_zero, List.set_cons_succ]
            refine wpAnyH_take (i := 6) (oi := ({ dst := some 33, op := Op.move (Operand.tmp 8), type := 3, pos := "law.go:64", after := #[{ on := 2, ground := Ground.guard }], guard := some (2, false) } : Oper)) (v := ?hv77) rfl (by kernel_rfl) (by kernel_rfl) (by kernel_rfl) (fun _ _ _ h => h) (Or.inl ⟨by rfl, ?hy77⟩) (by assumption) ?hr77
            case hy77 => (intro w hSw; (try dsimp only at hSw); go_simp; (try with_reducible rfl))
            try simp only [Act.put, List.setIfInBounds_toArray, List.set_cons_zero, List.set_cons_succ]
            refine wpAnyH_take (i := 7) (oi := ({ dst := some 34, op := Op.indexAddr 40 (Operand.tmp 32) (Operand.tmp 33), type := 0, pos := "law.go:64", after := #[{ on := 5, ground := Ground.data }, { on := 6, ground := Ground.data }, { on := 2, ground := Ground.guard }], guard := some (2, false) } : Oper)) (v := ?hv78) rfl (by kernel_rfl) (by kernel_rfl) (by kernel_rfl) (fun _ _ _ h => h) (Or.inl ⟨by rfl, ?hy78⟩) (by assumption) ?hr78
            case hy78 => (intro w hSw; (try dsimp only at hSw); go_simp; (try with_reducible rfl))
            try simp only [Act.put, List.setIfInBounds_toArray, List.set_cons_zero, List.set_cons_succ]
            refine wpAnyH_take (i := 8) (oi := ({ dst := some 35, op := Op.fieldAddr 56 (Operand.tmp 34) 0, type := 0, pos := "law.go:64", after := #[{ on := 7, ground := Ground.data }, { on := 2, ground := Ground.guard }], guard := some (2, false) } : Oper)) (v := ?hv79) rfl (by kernel_rfl) (by kernel_rfl) (by kernel_rfl) (fun _ _ _ h => h) (Or.inl ⟨by rfl, ?hy79⟩) (by assumption) ?hr79
            case hy79 => (intro w hSw; (try dsimp only at hSw); go_simp; (try with_reducible rfl))
            try simp only [Act.put, List.setIfInBounds_toArray, List.set_cons_zero, List.set_cons_succ]
            refine wpAnyH_take (i := 9) (oi := ({ dst := some 36, op := Op.load 22 (Operand.tmp 35), type := 22, pos := "law.go:64", after := #[{ on := 8, ground := Ground.data }, { on := 2, ground := Ground.guard }], guard := some (2, false) } : Oper)) (v := .int .i64 p.k) rfl (by kernel_rfl) (by kernel_rfl) (by kernel_rfl) (fun _ _ _ h => h) (Or.inl ⟨by rfl, fun w0 hw0 => by obtain ⟨q0, q1, q2⟩ := HPs.out w0 hw0; go_simp⟩) (by assumption) ?_
            try simp only [Act.put, List.setIfInBounds_toArray, List.set_cons_zero, List.set_cons_succ]
            refine wpAnyH_take (i := 10) (oi := ({ dst := some 37, op := Op.binOp BinOp.neq 22 (Operand.tmp 31) (Operand.tmp 36) 22, type := 4, pos := "law.go:64", after := #[{ on := 4, ground := Ground.data }, { on := 9, ground := Ground.data }, { on := 2, ground := Ground.guard }], guard := some (2, false) } : Oper)) (v := ?hv80) rfl (by kernel_rfl) (by kernel_rfl) (by kernel_rfl) (fun _ _ _ h => h) (Or.inl ⟨by rfl, ?hy80⟩) (by assumption) ?hr80
            case hy80 => (intro w hSw; (try dsimp only at hSw); go_simp; (try with_reducible rfl))
            try simp only [Act.put, List.setIfInBounds_toArray, List.set_cons_zero, List.set_cons_succ]
            refine wpAnyH_take (i := 11) (oi := ({ dst := some 38, op := Op.pick (Operand.tmp 29) (Operand.const (Value.bool true)) (Operand.tmp 37), type := 4, pos := "law.go:64", after := #[{ on := 2, ground := Ground.data }, { on := 10, ground := Ground.data }], guard := none } : Oper)) (v := ?hv81) rfl (by kernel_rfl) (by kernel_rfl) (by kernel_rfl) (fun _ _ _ h => h) (Or.inl ⟨by rfl, ?hy81⟩) (by assumption) ?hr81
            case hy81 => (intro w hSw; (try dsimp only at hSw); go_simp; (try with_reducible rfl))
            try simp only [Act.put, List.setIfInBounds_toArray, List.set_cons_zero, List.set_cons_succ]
            refine wpAnyH_take (i := 12) (oi := ({ dst := some 39, op := Op.move (Operand.tmp 38), type := 4, pos := "law.go:64", after := #[{ on := 11, ground := Ground.data }, { on := 2, ground := Ground.chain }], guard := none } : Oper)) (v := ?hv82) rfl (by kernel_rfl) (by kernel_rfl) (by kernel_rfl) (fun _ _ _ h => h) (Or.inl ⟨by rfl, ?hy82⟩) (by assumption) ?hr82
            case hy82 => (intro w hSw; (try dsimp only at hSw); go_simp; (try with_reducible rfl))
            try simp only [Act.put, List.setIfInBounds_toArray, List.set_cons_zero, List.set_cons_succ]
            refine wpAnyH_take (i := 13) (oi := ({ dst := some 40, op := Op.fieldAddr 34 (Operand.tmp 9) 5, type := 0, pos := "law.go:64", after := #[{ on := 12, ground := Ground.guard }], guard := some (12, false) } : Oper)) (v := ?hv83) rfl (by kernel_rfl) (by kernel_rfl) (by kernel_rfl) (fun _ _ _ h => h) (Or.inl ⟨by rfl, ?hy83⟩) (by assumption) ?hr83
            case hy83 => (intro w hSw; (try dsimp only at hSw); go_simp; (try with_reducible rfl))
            try simp only [Act.put, List.setIfInBounds_toArray, List.set_cons_zero, List.set_cons_succ]
            refine wpAnyH_take (i := 14) (oi := ({ dst := some 41, op := Op.load 9 (Operand.tmp 40), type := 9, pos := "law.go:64", after := #[{ on := 13, ground := Ground.data }, { on := 12, ground := Ground.guard }], guard := some (12, false) } : Oper)) (v := .string ke) rfl (by kernel_rfl) (by kernel_rfl) (by kernel_rfl) (fun _ _ _ h => h) (Or.inl ⟨by rfl, fun w0 hw0 => by obtain ⟨q0, q1, q2⟩ := XE.out w0 hw0; go_simp⟩) (by assumption) ?_
            try simp only [Act.put, List.setIfInBounds_toArray, List.set_cons_zero, List.set_cons_succ]
            refine wpAnyH_take (i := 15) (oi := ({ dst := some 42, op := Op.move (Operand.tmp 1), type := 40, pos := "law.go:64", after := #[{ on := 12, ground := Ground.guard }], guard := some (12, false) } : Oper)) (v := ?hv84) rfl (by kernel_rfl) (by kernel_rfl) (by kernel_rfl) (fun _ _ _ h => h) (Or.inl ⟨by rfl, ?hy84⟩) (by assumption) ?hr84
            case hy84 => (intro w hSw; (try dsimp only at hSw); go_simp; (try with_reducible rfl))
            try simp only [Act.put, List.setIfInBounds_toArray, List.set_cons_zero, List.set_cons_succ]
            refine wpAnyH_take (i := 16) (oi := ({ dst := some 43, op := Op.move (Operand.tmp 8), type := 3, pos := "law.go:64", after := #[{ on := 12, ground := Ground.guard }], guard := some (12, false) } : Oper)) (v := ?hv85) rfl (by kernel_rfl) (by kernel_rfl) (by kernel_rfl) (fun _ _ _ h => h) (Or.inl ⟨by rfl, ?hy85⟩) (by assumption) ?hr85
            case hy85 => (intro w hSw; (try dsimp only at hSw); go_simp; (try with_reducible rfl))
            try simp only [Act.put, List.setIfInBounds_toArray, List.set_cons_zero, List.set_cons_succ]
            refine wpAnyH_take (i := 17) (oi := ({ dst := some 44, op := Op.indexAddr 40 (Operand.tmp 42) (Operand.tmp 43), type := 0, pos := "law.go:64", after := #[{ on := 15, ground := Ground.data }, { on := 16, ground := Ground.data }, { on := 12, ground := Ground.guard }], guard := some (12, false) } : Oper)) (v := ?hv86) rfl (by kernel_rfl) (by kernel_rfl) (by kernel_rfl) (fun _ _ _ h => h) (Or.inl ⟨by rfl, ?hy86⟩) (by assumption) ?hr86
            case hy86 => (intro w hSw; (try dsimp only at hSw); go_simp; (try with_reducible rfl))
            try simp only [Act.put, List.setIfInBounds_toArray, List.set_cons_zero, List.set_cons_succ]
            refine wpAnyH_take (i := 18) (oi := ({ dst := some 45, op := Op.fieldAddr 56 (Operand.tmp 44) 1, type := 0, pos := "law.go:64", after := #[{ on := 17, ground := Ground.data }, { on := 12, ground := Ground.guard }], guard := some (12, false) } : Oper)) (v := ?hv87) rfl (by kernel_rfl) (by kernel_rfl) (by kernel_rfl) (fun _ _ _ h => h) (Or.inl ⟨by rfl, ?hy87⟩) (by assumption) ?hr87
            case hy87 => (intro w hSw; (try dsimp only at hSw); go_simp; (try with_reducible rfl))
            try simp only [Act.put, List.setIfInBounds_toArray, List.set_cons_zero, List.set_cons_succ]
            refine wpAnyH_take (i := 19) (oi := ({ dst := some 46, op := Op.load 9 (Operand.tmp 45), type := 9, pos := "law.go:64", after := #[{ on := 18, ground := Ground.data }, { on := 12, ground := Ground.guard }], guard := some (12, false) } : Oper)) (v := .string p.key) rfl (by kernel_rfl) (by kernel_rfl) (by kernel_rfl) (fun _ _ _ h => h) (Or.inl ⟨by rfl, fun w0 hw0 => by obtain ⟨q0, q1, q2⟩ := HPs.out w0 hw0; go_simp⟩) (by assumption) ?_
            try simp only [Act.put, List.setIfInBounds_toArray, List.set_cons_zero, List.set_cons_succ]
            refine wpAnyH_take (i := 20) (oi := ({ dst := some 47, op := Op.binOp BinOp.neq 9 (Operand.tmp 41) (Operand.tmp 46) 9, type := 4, pos := "law.go:64", after := #[{ on := 14, ground := Ground.data }, { on := 19, ground := Ground.data }, { on := 12, ground := Ground.guard }], guard := some (12, false) } : Oper)) (v := ?hv88) rfl (by kernel_rfl) (by kernel_rfl) (by kernel_rfl) (fun _ _ _ h => h) (Or.inl ⟨by rfl, ?hy88⟩) (by assumption) ?hr88
            case hy88 => (intro w hSw; (try dsimp only at hSw); go_simp; (try with_reducible rfl))
            try simp only [Act.put, List.setIfInBounds_toArray, List.set_cons_zero, List.set_cons_succ]
            refine wpAnyH_take (i := 21) (oi := ({ dst := some 48, op := Op.pick (Operand.tmp 39) (Operand.const (Value.bool true)) (Operand.tmp 47), type := 4, pos := "law.go:64", after := #[{ on := 12, ground := Ground.data }, { on := 20, ground := Ground.data }], guard := none } : Oper)) (v := ?hv89) rfl (by kernel_rfl) (by kernel_rfl) (by kernel_rfl) (fun _ _ _ h => h) (Or.inl ⟨by rfl, ?hy89⟩) (by assumption) ?hr89
            case hy89 => (intro w hSw; (try dsimp only at hSw); go_simp; (try with_reducible rfl))
            try simp only [Act.put, List.setIfInBounds_toArray, List.set_cons_zero, List.set_cons_succ]
            refine wpAnyH_take (i := 22) (oi := ({ dst := some 49, op := Op.move (Operand.tmp 48), type := 4, pos := "law.go:64", after := #[{ on := 21, ground := Ground.data }, { on := 12, ground := Ground.chain }], guard := none } : Oper)) (v := ?hv90) rfl (by kernel_rfl) (by kernel_rfl) (by kernel_rfl) (fun _ _ _ h => h) (Or.inl ⟨by rfl, ?hy90⟩) (by assumption) ?hr90
            case hy90 => (intro w hSw; (try dsimp only at hSw); go_simp; (try with_reducible rfl))
            try simp only [Act.put, List.setIfInBounds_toArray, List.set_cons_zero, List.set_cons_succ]
            refine wpAnyH_take (i := 23) (oi := ({ dst := some 50, op := Op.fieldAddr 34 (Operand.tmp 9) 1, type := 0, pos := "law.go:64", after := #[{ on := 22, ground := Ground.guard }], guard := some (22, false) } : Oper)) (v := undef) rfl (by kernel_rfl) (by kernel_rfl) (by kernel_rfl) (fun _ _ _ h => h) (Or.inr ⟨by rfl, rfl⟩) (by assumption) ?_
            try simp only [Act.put, List.setIfInBounds_toArray, List.set_cons_zero, List.set_cons_succ]
            refine wpAnyH_take (i := 24) (oi := ({ dst := some 51, op := Op.load 9 (Operand.tmp 50), type := 9, pos := "law.go:64", after := #[{ on := 23, ground := Ground.data }, { on := 22, ground := Ground.guard }], guard := some (22, false) } : Oper)) (v := undef) rfl (by kernel_rfl) (by kernel_rfl) (by kernel_rfl) (fun _ _ _ h => h) (Or.inr ⟨by rfl, rfl⟩) (by assumption) ?_
            try simp only [Act.put, List.setIfInBounds_toArray, List.set_cons_zero, List.set_cons_succ]
            refine wpAnyH_take (i := 25) (oi := ({ dst := some 52, op := Op.move (Operand.tmp 2), type := 9, pos := "law.go:64", after := #[{ on := 22, ground := Ground.guard }], guard := some (22, false) } : Oper)) (v := undef) rfl (by kernel_rfl) (by kernel_rfl) (by kernel_rfl) (fun _ _ _ h => h) (Or.inr ⟨by rfl, rfl⟩) (by assumption) ?_
            try simp only [Act.put, List.setIfInBounds_toArray, List.set_cons_zero, List.set_cons_succ]
            refine wpAnyH_take (i := 26) (oi := ({ dst := some 53, op := Op.binOp BinOp.neq 9 (Operand.tmp 51) (Operand.tmp 52) 9, type := 4, pos := "law.go:64", after := #[{ on := 24, ground := Ground.data }, { on := 25, ground := Ground.data }, { on := 22, ground := Ground.guard }], guard := some (22, false) } : Oper)) (v := undef) rfl (by kernel_rfl) (by kernel_rfl) (by kernel_rfl) (fun _ _ _ h => h) (Or.inr ⟨by rfl, rfl⟩) (by assumption) ?_
            try simp only [Act.put, List.setIfInBounds_toArray, List.set_cons_zero, List.set_cons_succ]
            refine wpAnyH_take (i := 27) (oi := ({ dst := some 54, op := Op.pick (Operand.tmp 49) (Operand.const (Value.bool true)) (Operand.tmp 53), type := 4, pos := "law.go:64", after := #[{ on := 22, ground := Ground.data }, { on := 26, ground := Ground.data }], guard := none } : Oper)) (v := ?hv91) rfl (by kernel_rfl) (by kernel_rfl) (by kernel_rfl) (fun _ _ _ h => h) (Or.inl ⟨by rfl, ?hy91⟩) (by assumption) ?hr91
            case hy91 => (intro w hSw; (try dsimp only at hSw); go_simp; (try with_reducible rfl))
            try simp only [Act.put, List.setIfInBounds_toArray, List.set_cons_zero, List.set_cons_succ]
            refine wpAnyH_done (by kernel_rfl) ?_ _
            go_wp2
            go_ret
            exact ⟨⟨false, rfl, fun h => by cases h⟩, BW4.out.trans (RB0.out.mono BW4.out.size)⟩
        · have z1 : (kd == p.k) = false := beq_eq_false_iff_ne.2 c1
          have z1' : (kd != p.k) = true := bne_iff_ne.2 c1
          clear c1 HGo HG
          refine wp_region_held_drew (S := (fun y => Below w4.heap.size w4 y)) (by kernel_rfl) ((Below.refl w4.heap.size w4).drew) (fun hH0 => ?_)
          generalize hy0 : World.drew _ = y0 at hH0 ⊢
          have RB0 : Hid (Below w4.heap.size w4 y0) := Lib.hid hH0
          clear hy0
          refine wpAnyH_take (i := 0) (oi := ({ dst := some 27, op := Op.move (Operand.tmp 10), type := 4, pos := "law.go:64", after := #[], guard := none } : Oper)) (v := ?hv58) rfl (by kernel_rfl) (by kernel_rfl) (by kernel_rfl) (fun _ _ _ h => h) (Or.inl ⟨by rfl, ?hy58⟩) (by assumption) ?hr58
          case hy58 => (intro w hSw; (try dsimp only at hSw); go_simp; (try with_reducible rfl))
          try simp only [Act.put, List.setIfInBounds_toArray, List.set_cons_zero, List.set_cons_succ]
          refine wpAnyH_take (i := 1) (oi := ({ dst := some 28, op := Op.unOp UnOp.not 4 (Operand.tmp 27), type := 4, pos := "law.go:64", after := #[{ on := 0, ground := Ground.data }], guard := none } : Oper)) (v := ?hv59) rfl (by kernel_rfl) (by kernel_rfl) (by kernel_rfl) (fun _ _ _ h => h) (Or.inl ⟨by rfl, ?hy59⟩) (by assumption) ?hr59
          case hy59 => (intro w hSw; (try dsimp only at hSw); go_simp; (try with_reducible rfl))
          try simp only [Act.put, List.setIfInBounds_toArray, List.set_cons_zero, List.set_cons_succ]
          refine wpAnyH_take (i := 2) (oi := ({ dst := some 29, op := Op.move (Operand.tmp 28), type := 4, pos := "law.go:64", after := #[{ on := 1, ground := Ground.data }], guard := none } : Oper)) (v := ?hv60) rfl (by kernel_rfl) (by kernel_rfl) (by kernel_rfl) (fun _ _ _ h => h) (Or.inl ⟨by rfl, ?hy60⟩) (by assumption) ?hr60
          case hy60 => (intro w hSw; (try dsimp only at hSw); go_simp; (try with_reducible rfl))
          try simp only [Act.put, List.setIfInBounds_toArray, List.set_cons_zero, List.set_cons_succ]
          refine wpAnyH_take (i := 3) (oi := ({ dst := some 30, op := Op.fieldAddr 34 (Operand.tmp 9) 3, type := 0, pos := "law.go:64", after := #[{ on := 2, ground := Ground.guard }], guard := some (2, false) } : Oper)) (v := ?hv61) rfl (by kernel_rfl) (by kernel_rfl) (by kernel_rfl) (fun _ _ _ h => h) (Or.inl ⟨by rfl, ?hy61⟩) (by assumption) ?hr61
          case hy61 => (intro w hSw; (try dsimp only at hSw); go_simp; (try with_reducible rfl))
          try simp only [Act.put, List.setIfInBounds_toArray, List.set_cons_zero, List.set_cons_succ]
          refine wpAnyH_take (i := 4) (oi := ({ dst := some 31, op := Op.load 22 (Operand.tmp 30), type := 22, pos := "law.go:64", after := #[{ on := 3, ground := Ground.data }, { on := 2, ground := Ground.guard }], guard := some (2, false) } : Oper)) (v := .int .i64 kd) rfl (by kernel_rfl) (by kernel_rfl) (by kernel_rfl) (fun _ _ _ h => h) (Or.inl ⟨by rfl, fun w0 hw0 => by obtain ⟨q0, q1, q2⟩ := XE.out w0 hw0; go_simp⟩) (by assumption) ?_
          try simp only [Act.put, List.setIfInBounds_toArray, List.set_cons_zero, List.set_cons_succ]
          refine wpAnyH_take (i := 5) (oi := ({ dst := some 32, op := Op.move (Operand.tmp 1), type := 40, pos := "law.go:64", after := #[{ on := 2, ground := Ground.guard }], guard := some (2, false) } : Oper)) (v := ?hv62) rfl (by kernel_rfl) (by kernel_rfl) (by kernel_rfl) (fun _ _ _ h => h) (Or.inl ⟨by rfl, ?hy62⟩) (by assumption) ?hr62
          case hy62 => (intro w hSw; (try dsimp only at hSw); go_simp; (try with_reducible rfl))
          try simp only [Act.put, List.setIfInBounds_toArray, List.set_cons_zero, List.set_cons_succ]
          refine wpAnyH_take (i := 6) (oi := ({ dst := some 33, op := Op.move (Operand.tmp 8), type := 3, pos := "law.go:64", after := #[{ on := 2, ground := Ground.guard }], guard := some (2, false) } : Oper)) (v := ?hv63) rfl (by kernel_rfl) (by kernel_rfl) (by kernel_rfl) (fun _ _ _ h => h) (Or.inl ⟨by rfl, ?hy63⟩) (by assumption) ?hr63
          case hy63 => (intro w hSw; (try dsimp only at hSw); go_simp; (try with_reducible rfl))
          try simp only [Act.put, List.setIfInBounds_toArray, List.set_cons_zero, List.set_cons_succ]
          refine wpAnyH_take (i := 7) (oi := ({ dst := some 34, op := Op.indexAddr 40 (Operand.tmp 32) (Operand.tmp 33), type := 0, pos := "law.go:64", after := #[{ on := 5, ground := Ground.data }, { on := 6, ground := Ground.data }, { on := 2, ground := Ground.guard }], guard := some (2, false) } : Oper)) (v := ?hv64) rfl (by kernel_rfl) (by kernel_rfl) (by kernel_rfl) (fun _ _ _ h => h) (Or.inl ⟨by rfl, ?hy64⟩) (by assumption) ?hr64
          case hy64 => (intro w hSw; (try dsimp only at hSw); go_simp; (try with_reducible rfl))
          try simp only [Act.put, List.setIfInBounds_toArray, List.set_cons_zero, List.set_cons_succ]
          refine wpAnyH_take (i := 8) (oi := ({ dst := some 35, op := Op.fieldAddr 56 (Operand.tmp 34) 0, type := 0, pos := "law.go:64", after := #[{ on := 7, ground := Ground.data }, { on := 2, ground := Ground.guard }], guard := some (2, false) } : Oper)) (v := ?hv65) rfl (by kernel_rfl) (by kernel_rfl) (by kernel_rfl) (fun _ _ _ h => h) (Or.inl ⟨by rfl, ?hy65⟩) (by assumption) ?hr65
          case hy65 => (intro w hSw; (try dsimp only at hSw); go_simp; (try with_reducible rfl))
          try simp only [Act.put, List.setIfInBounds_toArray, List.set_cons_zero, List.set_cons_succ]
          refine wpAnyH_take (i := 9) (oi := ({ dst := some 36, op := Op.load 22 (Operand.tmp 35), type := 22, pos := "law.go:64", after := #[{ on := 8, ground := Ground.data }, { on := 2, ground := Ground.guard }], guard := some (2, false) } : Oper)) (v := .int .i64 p.k) rfl (by kernel_rfl) (by kernel_rfl) (by kernel_rfl) (fun _ _ _ h => h) (Or.inl ⟨by rfl, fun w0 hw0 => by obtain ⟨q0, q1, q2⟩ := HPs.out w0 hw0; go_simp⟩) (by assumption) ?_
          try simp only [Act.put, List.setIfInBounds_toArray, List.set_cons_zero, List.set_cons_succ]
          refine wpAnyH_take (i := 10) (oi := ({ dst := some 37, op := Op.binOp BinOp.neq 22 (Operand.tmp 31) (Operand.tmp 36) 22, type := 4, pos := "law.go:64", after := #[{ on := 4, ground := Ground.data }, { on := 9, ground := Ground.data }, { on := 2, ground := Ground.guard }], guard := some (2, false) } : Oper)) (v := ?hv66) rfl (by kernel_rfl) (by kernel_rfl) (by kernel_rfl) (fun _ _ _ h => h) (Or.inl ⟨by rfl, ?hy66⟩) (by assumption) ?hr66
          case hy66 => (intro w hSw; (try dsimp only at hSw); go_simp; (try with_reducible rfl))
          try simp only [Act.put, List.setIfInBounds_toArray, List.set_cons_zero, List.set_cons_succ]
          refine wpAnyH_take (i := 11) (oi := ({ dst := some 38, op := Op.pick (Operand.tmp 29) (Operand.const (Value.bool true)) (Operand.tmp 37), type := 4, pos := "law.go:64", after := #[{ on := 2, ground := Ground.data }, { on := 10, ground := Ground.data }], guard := none } : Oper)) (v := ?hv67) rfl (by kernel_rfl) (by kernel_rfl) (by kernel_rfl) (fun _ _ _ h => h) (Or.inl ⟨by rfl, ?hy67⟩) (by assumption) ?hr67
          case hy67 => (intro w hSw; (try dsimp only at hSw); go_simp; (try with_reducible rfl))
          try simp only [Act.put, List.setIfInBounds_toArray, List.set_cons_zero, List.set_cons_succ]
          refine wpAnyH_take (i := 12) (oi := ({ dst := some 39, op := Op.move (Operand.tmp 38), type := 4, pos := "law.go:64", after := #[{ on := 11, ground := Ground.data }, { on := 2, ground := Ground.chain }], guard := none } : Oper)) (v := ?hv68) rfl (by kernel_rfl) (by kernel_rfl) (by kernel_rfl) (fun _ _ _ h => h) (Or.inl ⟨by rfl, ?hy68⟩) (by assumption) ?hr68
          case hy68 => (intro w hSw; (try dsimp only at hSw); go_simp; (try with_reducible rfl))
          try simp only [Act.put, List.setIfInBounds_toArray, List.set_cons_zero, List.set_cons_succ]
          refine wpAnyH_take (i := 13) (oi := ({ dst := some 40, op := Op.fieldAddr 34 (Operand.tmp 9) 5, type := 0, pos := "law.go:64", after := #[{ on := 12, ground := Ground.guard }], guard := some (12, false) } : Oper)) (v := undef) rfl (by kernel_rfl) (by kernel_rfl) (by kernel_rfl) (fun _ _ _ h => h) (Or.inr ⟨by rfl, rfl⟩) (by assumption) ?_
          try simp only [Act.put, List.setIfInBounds_toArray, List.set_cons_zero, List.set_cons_succ]
          refine wpAnyH_take (i := 14) (oi := ({ dst := some 41, op := Op.load 9 (Operand.tmp 40), type := 9, pos := "law.go:64", after := #[{ on := 13, ground := Ground.data }, { on := 12, ground := Ground.guard }], guard := some (12, false) } : Oper)) (v := undef) rfl (by kernel_rfl) (by kernel_rfl) (by kernel_rfl) (fun _ _ _ h => h) (Or.inr ⟨by rfl, rfl⟩) (by assumption) ?_
          try simp only [Act.put, List.setIfInBounds_toArray, List.set_cons_zero, List.set_cons_succ]
          refine wpAnyH_take (i := 15) (oi := ({ dst := some 42, op := Op.move (Operand.tmp 1), type := 40, pos := "law.go:64", after := #[{ on := 12, ground := Ground.guard }], guard := some (12, false) } : Oper)) (v := undef) rfl (by kernel_rfl) (by kernel_rfl) (by kernel_rfl) (fun _ _ _ h => h) (Or.inr ⟨by rfl, rfl⟩) (by assumption) ?_
          try simp only [Act.put, List.setIfInBounds_toArray, List.set_cons_zero, List.set_cons_succ]
          refine wpAnyH_take (i := 16) (oi := ({ dst := some 43, op := Op.move (Operand.tmp 8), type := 3, pos := "law.go:64", after := #[{ on := 12, ground := Ground.guard }], guard := some (12, false) } : Oper)) (v := undef) rfl (by kernel_rfl) (by kernel_rfl) (by kernel_rfl) (fun _ _ _ h => h) (Or.inr ⟨by rfl, rfl⟩) (by assumption) ?_
          try simp only [Act.put, List.setIfInBounds_toArray, List.set_cons_zero, List.set_cons_succ]
          refine wpAnyH_take (i := 17) (oi := ({ dst := some 44, op := Op.indexAddr 40 (Operand.tmp 42) (Operand.tmp 43), type := 0, pos := "law.go:64", after := #[{ on := 15, ground := Ground.data }, { on := 16, ground := Ground.data }, { on := 12, ground := Ground.guard }], guard := some (12, false) } : Oper)) (v := undef) rfl (by kernel_rfl) (by kernel_rfl) (by kernel_rfl) (fun _ _ _ h => h) (Or.inr ⟨by rfl, rfl⟩) (by assumption) ?_
          try simp only [Act.put, List.setIfInBounds_toArray, List.set_cons_zero, List.set_cons_succ]
          refine wpAnyH_take (i := 18) (oi := ({ dst := some 45, op := Op.fieldAddr 56 (Operand.tmp 44) 1, type := 0, pos := "law.go:64", after := #[{ on := 17, ground := Ground.data }, { on := 12, ground := Ground.guard }], guard := some (12, false) } : Oper)) (v := undef) rfl (by kernel_rfl) (by kernel_rfl) (by kernel_rfl) (fun _ _ _ h => h) (Or.inr ⟨by rfl, rfl⟩) (by assumption) ?_
          try simp only [Act.put, List.setIfInBounds_toArray, List.set_cons_zero, List.set_cons_succ]
          refine wpAnyH_take (i := 19) (oi := ({ dst := some 46, op := Op.load 9 (Operand.tmp 45), type := 9, pos := "law.go:64", after := #[{ on := 18, ground := Ground.data }, { on := 12, ground := Ground.guard }], guard := some (12, false) } : Oper)) (v := undef) rfl (by kernel_rfl) (by kernel_rfl) (by kernel_rfl) (fun _ _ _ h => h) (Or.inr ⟨by rfl, rfl⟩) (by assumption) ?_
          try simp only [Act.put, List.setIfInBounds_toArray, List.set_cons_zero, List.set_cons_succ]
          refine wpAnyH_take (i := 20) (oi := ({ dst := some 47, op := Op.binOp BinOp.neq 9 (Operand.tmp 41) (Operand.tmp 46) 9, type := 4, pos := "law.go:64", after := #[{ on := 14, ground := Ground.data }, { on := 19, ground := Ground.data }, { on := 12, ground := Ground.guard }], guard := some (12, false) } : Oper)) (v := undef) rfl (by kernel_rfl) (by kernel_rfl) (by kernel_rfl) (fun _ _ _ h => h) (Or.inr ⟨by rfl, rfl⟩) (by assumption) ?_
          try simp only [Act.put, List.setIfInBounds_toArray, List.set_cons_zero, List.set_cons_succ]
          refine wpAnyH_take (i := 21) (oi := ({ dst := some 48, op := Op.pick (Operand.tmp 39) (Operand.const (Value.bool true)) (Operand.tmp 47), type := 4, pos := "law.go:64", after := #[{ on := 12, ground := Ground.data }, { on := 20, ground := Ground.data }], guard := none } : Oper)) (v := ?hv69) rfl (by kernel_rfl) (by kernel_rfl) (by kernel_rfl) (fun _ _ _ h => h) (Or.inl ⟨by rfl, ?hy69⟩) (by assumption) ?hr69
          case hy69 => (intro w hSw; (try dsimp only at hSw); go_simp; (try with_reducible rfl))
          try simp only [Act.put, List.setIfInBounds_toArray, List.set_cons_zero, List.set_cons_succ]
          refine wpAnyH_take (i := 22) (oi := ({ dst := some 49, op := Op.move (Operand.tmp 48), type := 4, pos := "law.go:64", after := #[{ on := 21, ground := Ground.data }, { on := 12, ground := Ground.chain }], guard := none } : Oper)) (v := ?hv70) rfl (by kernel_rfl) (by kernel_rfl) (by kernel_rfl) (fun _ _ _ h => h) (Or.inl ⟨by rfl, ?hy70⟩) (by assumption) ?hr70
          case hy70 => (intro w hSw; (try dsimp only at hSw); go_simp; (try with_reducible rfl))
          try simp only [Act.put, List.setIfInBounds_toArray, List.set_cons_zero, List.set_cons_succ]
          refine wpAnyH_take (i := 23) (oi := ({ dst := some 50, op := Op.fieldAddr 34 (Operand.tmp 9) 1, type := 0, pos := "law.go:64", after := #[{ on := 22, ground := Ground.guard }], guard := some (22, false) } : Oper)) (v := undef) rfl (by kernel_rfl) (by kernel_rfl) (by kernel_rfl) (fun _ _ _ h => h) (Or.inr ⟨by rfl, rfl⟩) (by assumption) ?_
          try simp only [Act.put, List.setIfInBounds_toArray, List.set_cons_zero, List.set_cons_succ]
          refine wpAnyH_take (i := 24) (oi := ({ dst := some 51, op := Op.load 9 (Operand.tmp 50), type := 9, pos := "law.go:64", after := #[{ on := 23, ground := Ground.data }, { on := 22, ground := Ground.guard }], guard := some (22, false) } : Oper)) (v := undef) rfl (by kernel_rfl) (by kernel_rfl) (by kernel_rfl) (fun _ _ _ h => h) (Or.inr ⟨by rfl, rfl⟩) (by assumption) ?_
          try simp only [Act.put, List.setIfInBounds_toArray, List.set_cons_zero, List.set_cons_succ]
          refine wpAnyH_take (i := 25) (oi := ({ dst := some 52, op := Op.move (Operand.tmp 2), type := 9, pos := "law.go:64", after := #[{ on := 22, ground := Ground.guard }], guard := some (22, false) } : Oper)) (v := undef) rfl (by kernel_rfl) (by kernel_rfl) (by kernel_rfl) (fun _ _ _ h => h) (Or.inr ⟨by rfl, rfl⟩) (by assumption) ?_
          try simp only [Act.put, List.setIfInBounds_toArray, List.set_cons_zero, List.set_cons_succ]
          refine wpAnyH_take (i := 26) (oi := ({ dst := some 53, op := Op.binOp BinOp.neq 9 (Operand.tmp 51) (Operand.tmp 52) 9, type := 4, pos := "law.go:64", after := #[{ on := 24, ground := Ground.data }, { on := 25, ground := Ground.data }, { on := 22, ground := Ground.guard }], guard := some (22, false) } : Oper)) (v := undef) rfl (by kernel_rfl) (by kernel_rfl) (by kernel_rfl) (fun _ _ _ h => h) (Or.inr ⟨by rfl, rfl⟩) (by assumption) ?_
          try simp only [Act.put, List.setIfInBounds_toArray, List.set_cons_zero, List.set_cons_succ]
          refine wpAnyH_take (i := 27) (oi := ({ dst := some 54, op := Op.pick (Operand.tmp 49) (Operand.const (Value.bool true)) (Operand.tmp 53), type := 4, pos := "law.go:64", after := #[{ on := 22, ground := Ground.data }, { on := 26, ground := Ground.data }], guard := none } : Oper)) (v := ?hv71) rfl (by kernel_rfl) (by kernel_rfl) (by kernel_rfl) (fun _ _ _ h => h) (Or.inl ⟨by rfl, ?hy71⟩) (by assumption) ?hr71
          case hy71 => (intro w hSw; (try dsimp only at hSw); go_simp; (try with_reducible rfl))
          try simp only [Act.put, List.setIfInBounds_toArray, List.set_cons_zero, List.set_cons_succ]
          refine wpAnyH_done (by kernel_rfl) ?_ _
          go_wp2
          go_ret
          exact ⟨⟨false, rfl, fun h => by cases h⟩, BW4.out.trans (RB0.out.mono BW4.out.size)⟩
    · have hltz : ¬ (jj : Int) < (m : Int) := by omega
      have HTa := Lib.hid (show sl.take jj = sl from List.take_of_length_le (by rw [HSl.out]; omega))
      have HAll := Lib.hid (show ∀ p ∈ sl, GoodP E n room p from fun p hp => by
        obtain ⟨j, hj, rfl⟩ := List.getElem_of_mem hp
        have := HG.out j (by rw [HSl.out] at hj; omega)
        rwa [Ky.getD_at hj] at this)
      go_wp2
      go_ret
      exact ⟨⟨cr, rfl, fun h => ⟨HAll.out, by rw [← HTa.out, ← HC.out]; exact h⟩⟩, BX.out⟩
end Go.Proofs.Ytbedibiodlgegaa

namespace Go.Proofs.Ytbedibiodlgegaa
open Go Go.RowKit
set_option linter.unusedVariables false
set_option linter.unusedSimpArgs false

/-- The event, with other parents. -/
def setAuth (e : Evd) (A : Option Addr) (m c : Nat) (zs : List Int) : Evd := ⟨e.e0, e.e1, e.e2, e.e3, e.e4, e.e5, e.e6, e.e7, e.a8, e.n8, e.c8, A, m, c, e.C, e.a, e.e26, e.e27, e.e28, e.p8, zs⟩
theorem set_cells (e : Evd) (A : Option Addr) (m c : Nat) (zs : List Int) : (cellsE e).set 9 (.slice A m c) = cellsE (setAuth e A m c zs) := rfl
theorem wf_set {e : Evd} (h : Wfe e) (A : Option Addr) (m c : Nat) (zs : List Int) (hm : m ≤ 100) : Wfe (setAuth e A m c zs) := ⟨h.b8, show m ≤ 9223372036854775807 by omega, h.s1, h.s2, h.s5, h.s27, h.tx, h.via, h.us, h.i0, h.i3, h.i6, h.i7, h.i26, h.i28, h.iN, h.iT⟩
theorem sel_good {E : Nat → Evd} {n : Nat} {e : Evd} {sl : List Ky.Rc} {z : Int} (hH : HonP E n sl e.e1) (hz : z ∈ selL (keysE e) sl) : ∃ q, q ∈ keysE e ∧ (∃ p, sl.find? (isK q.k q.key) = some p ∧ p.id = z) ∧ ∃ k, pl E n z = some k ∧ kyE (E k) = q ∧ (E k).e1.toList = e.e1.toList := by
  unfold selL at hz
  obtain ⟨q, hq, h2⟩ := List.mem_filterMap.1 hz
  rw [Option.map_eq_some_iff] at h2
  obtain ⟨p, hp, rfl⟩ := h2
  obtain ⟨k, h1, h3, h4, h5⟩ := hH.1 p (List.mem_of_find?_eq_some hp)
  have hk := List.find?_some hp
  unfold isK at hk
  have hk' := of_decide_eq_true hk
  have hz0 : q.id = 0 := Ky.keysL_z _ _ _ _ q hq
  exact ⟨q, hq, ⟨p, hp, rfl⟩, k, h1, (Ky.eq_iff3 (kyE (E k)) q).2 ⟨h3.trans hk'.1, h4.trans hk'.2, hz0.symm⟩, h5⟩
theorem noBad_of {kl ps : List Ky.Rc} (h1 : ∀ p ∈ ps, p ∈ kl) (h2 : ps.Nodup) : noBad kl ps = true := noBad_yes fun k hk => by
  unfold badK
  rw [Ky.getD_at hk]
  have a1 : kl.any (isEq ps[k]) = true := List.any_eq_true.2 ⟨ps[k], h1 _ (List.getElem_mem _), decide_eq_true rfl⟩
  have a2 : (ps.take k).any (isEq ps[k]) = false := by
    rw [List.any_eq_false]
    intro x hx
    obtain ⟨i, hi, rfl⟩ := List.mem_take_iff_getElem.1 hx
    rw [List.nodup_iff_pairwise_ne, List.pairwise_iff_getElem] at h2
    intro hh
    exact h2 i k (by omega) hk (by omega) (of_decide_eq_true hh).symm
  rw [a1, a2]; rfl
theorem nodup_on {l : List Int} {f : Int → Ky.Rc} (h : l.Nodup) (hi : ∀ a ∈ l, ∀ b ∈ l, f a = f b → a = b) : (l.map f).Nodup := by
  rw [List.nodup_iff_pairwise_ne, List.pairwise_map]
  exact (List.nodup_iff_pairwise_ne.1 h).imp_of_mem fun ha hb hab e => hab (hi _ ha _ hb e)
theorem made_plain {E : Nat → Evd} {n : Nat} {e : Evd} {sl : List Ky.Rc} (hH : HonP E n sl e.e1) (A : Option Addr) (m c : Nat) : fitsE E n (setAuth e A m c (Q.M.st (selL (keysE e) sl))) = 0 := by
  have hg : ∀ z ∈ Q.M.st (selL (keysE e) sl), ∃ q, q ∈ keysE e ∧ (∃ p, sl.find? (isK q.k q.key) = some p ∧ p.id = z) ∧ ∃ k, pl E n z = some k ∧ kyE (E k) = q ∧ (E k).e1.toList = e.e1.toList := fun z hz => sel_good hH ((Q.M.mem_st _ _).1 hz)
  have hpa := pa_map E n (setAuth e A m c (Q.M.st (selL (keysE e) sl)))
  have h0 : allIn E n (setAuth e A m c (Q.M.st (selL (keysE e) sl))) = true := by
    unfold allIn
    rw [List.all_eq_true]
    intro z hz
    obtain ⟨_, _, _, k, hk, _⟩ := hg z hz
    rw [hk]; rfl
  have h1 : sameRm E n (setAuth e A m c (Q.M.st (selL (keysE e) sl))) = true := by
    unfold sameRm paE
    rw [List.all_map, List.all_eq_true]
    intro z hz
    obtain ⟨_, _, _, k, hk, _, hr⟩ := hg z hz
    show ((E (plN E n z)).e1.toList == e.e1.toList) = true
    rw [show plN E n z = k by unfold plN; rw [hk]; rfl]
    exact beq_iff_eq.2 hr
  have hkz : ∀ z k, pl E n z = some k → kzO E n z = kyE (E k) := fun z k hk => by unfold kzO plN; rw [hk]; rfl
  have h2 : noBad (keysE (setAuth e A m c (Q.M.st (selL (keysE e) sl)))) ((paE E n (setAuth e A m c (Q.M.st (selL (keysE e) sl)))).map kyE) = true := by
    rw [hpa]
    refine noBad_of (fun p hp => ?_) (nodup_on (Q.M.srt_nodup (Q.M.srt_st _)) fun a ha b hb hab => ?_)
    · obtain ⟨z, hz, rfl⟩ := List.mem_map.1 hp
      obtain ⟨q, hq, _, k, hk, hkq, _⟩ := hg z hz
      rw [hkz z k hk, hkq]
      exact hq
    · obtain ⟨q, hq, ⟨p, hp, hpi⟩, k, hk, hkq, _⟩ := hg a ha
      obtain ⟨q', hq', ⟨p', hp', hpi'⟩, k', hk', hkq', _⟩ := hg b hb
      rw [hkz a k hk, hkz b k' hk', hkq, hkq'] at hab
      subst hab
      rw [hp] at hp'
      cases hp'
      rw [← hpi, ← hpi']
  unfold fitsE
  rw [if_neg (by rw [h0]; decide), if_neg (by rw [h1]; decide), if_neg (by rw [h2]; decide), if_neg]
  rintro ⟨h3, h4⟩
  have h3' : ¬ e.e3 = 1 := h3
  rw [hpa, List.any_eq_false] at h4
  cases hf : sl.find? (isK 1 ⟨#[]⟩) with
  | none =>
    rw [List.find?_eq_none] at hf
    obtain ⟨p, hp, hp1⟩ := List.any_eq_true.1 hH.2
    exact hf p hp hp1
  | some p =>
    obtain ⟨k, hk, hk3, _⟩ := hH.1 p (List.mem_of_find?_eq_some hf)
    have hi := List.find?_some hf
    unfold isK at hi
    have hi' := of_decide_eq_true hi
    have hm : p.id ∈ selL (keysE e) sl := by
      unfold selL
      refine List.mem_filterMap.2 ⟨Ky.kz 1 Ky.eS, ?_, ?_⟩
      · unfold keysE
        rw [Ky.mem_keysL h3']
        unfold Ky.rawK
        simp
      · show (sl.find? (isK 1 ⟨#[]⟩)).map _ = some _
        rw [hf]; rfl
    refine h4 (kzO E n p.id) (List.mem_map.2 ⟨p.id, (Q.M.mem_st _ _).2 hm, rfl⟩) ?_
    rw [hkz _ k hk]
    exact decide_eq_true (hk3.trans hi'.1)
theorem ints_its {w : World} {A : Option Addr} {n c : Nat} {zs : List Int} (h : Q.Ints w A n c zs) (hf : ∀ z ∈ zs, i64B z) : Its w A n c zs := by
  have hb := h.big
  refine ⟨⟨fun j _ => rfl, fun j _ u hu => ?_, by unfold maxLen; omega, h.nil, h.at_.imp id fun ⟨b, off, e, hlt, hc⟩ => ⟨b, off, e, hlt, fun j hj i v hv => ?_⟩⟩, h.len, h.cap, fun z hz => hf z hz⟩
  · simp [rowI] at hu; subst hu; rfl
  · have hi : i = 0 := by
      have := (List.getElem?_eq_some_iff.1 hv).1
      simpa [rowI] using this
    subst hi
    have hv' : v = .int .i64 (zs.getD j 0) := by simpa [rowI] using hv.symm
    rw [hv', Nat.mul_one, Nat.add_zero, hc j hj]
theorem its_other {w : World} {A : Option Addr} {n c : Nat} {zs : List Int} (h : Its w A n c zs) (a : Addr) (v : Value) (hne : 0 < n → ∀ b off, A = some ⟨b, off, none⟩ → b ≠ a.block) : Its (w.setCell a v) A n c zs := ⟨h.rws.other a v hne, h.len, h.cap, h.fit⟩
set_option maxRecDepth 100000 in
set_option maxHeartbeats 16000000 in
theorem made_walk (A : Option Addr) (n c : Nat) (E : Nat → Evd) (e : Evd) (As : Option Addr) (m d : Nat) (sl : List Ky.Rc) (w : World) (h0 : Evx w A n E) (hc : IsCt w e.C e.a) (h : Wfe e) (p8 : Its w e.a8 e.n8 e.c8 e.p8) (p9 : Its w e.a9 e.n9 e.c9 e.p9) (hs : EnR w As m d sl) (hfi : FitI sl) : Calls Try.prog 7 #[.slice A n c, .agg (cellsE e).toArray, .slice As m d] w fun r w' => r = .returned (.bool true) ∧ Below w.heap.size w w' := by
  show Calls Try.prog 7 #[.slice A n c, .agg #[.int .i64 e.e0, .string e.e1, .string e.e2, .int .i64 e.e3, .bool e.e4, .string e.e5, .int .i64 e.e6, .int .i64 e.e7, .slice e.a8 e.n8 e.c8, .slice e.a9 e.n9 e.c9, .string e.C.tx, .int .i64 e.C.n, .int .i64 e.C.tg, .bool e.C.th, .string e.C.via, .slice e.a.aA e.C.nA e.a.aC, .slice e.a.dA e.C.nD e.a.dC, .slice e.a.uA e.C.lv.nU e.a.uC, .slice e.a.kA e.C.lv.nK e.a.kC, .int .i64 e.C.lv.d, .int .i64 e.C.lv.x3, .int .i64 e.C.lv.x4, .int .i64 e.C.lv.x5, .int .i64 e.C.lv.x6, .int .i64 e.C.lv.x7, .int .i64 e.C.lv.x8, .int .i64 e.e26, .string e.e27, .int .i64 e.e28], .slice As m d] w _
  have BA := Lib.hid ((Below.refl w.heap.size w).alloc (Nat.le_refl _) (.cells #[.int .i64 e.e0, .string e.e1, .string e.e2, .int .i64 e.e3, .bool e.e4, .string e.e5, .int .i64 e.e6, .int .i64 e.e7, .slice e.a8 e.n8 e.c8, .slice e.a9 e.n9 e.c9, .string e.C.tx, .int .i64 e.C.n, .int .i64 e.C.tg, .bool e.C.th, .string e.C.via, .slice e.a.aA e.C.nA e.a.aC, .slice e.a.dA e.C.nD e.a.dC, .slice e.a.uA e.C.lv.nU e.a.uC, .slice e.a.kA e.C.lv.nK e.a.kC, .int .i64 e.C.lv.d, .int .i64 e.C.lv.x3, .int .i64 e.C.lv.x4, .int .i64 e.C.lv.x5, .int .i64 e.C.lv.x6, .int .i64 e.C.lv.x7, .int .i64 e.C.lv.x8, .int .i64 e.e26, .string e.e27, .int .i64 e.e28] 34))
  have XA : Hid (Blk (w.alloc (.cells #[.int .i64 e.e0, .string e.e1, .string e.e2, .int .i64 e.e3, .bool e.e4, .string e.e5, .int .i64 e.e6, .int .i64 e.e7, .slice e.a8 e.n8 e.c8, .slice e.a9 e.n9 e.c9, .string e.C.tx, .int .i64 e.C.n, .int .i64 e.C.tg, .bool e.C.th, .string e.C.via, .slice e.a.aA e.C.nA e.a.aC, .slice e.a.dA e.C.nD e.a.dC, .slice e.a.uA e.C.lv.nU e.a.uC, .slice e.a.kA e.C.lv.nK e.a.kC, .int .i64 e.C.lv.d, .int .i64 e.C.lv.x3, .int .i64 e.C.lv.x4, .int .i64 e.C.lv.x5, .int .i64 e.C.lv.x6, .int .i64 e.C.lv.x7, .int .i64 e.C.lv.x8, .int .i64 e.e26, .string e.e27, .int .i64 e.e28] 34)) w.heap.size (cellsE e) 34) := Lib.hid (blk_new w (cellsE e) 34)
  have H0 := Lib.hid h0
  have H := Lib.hid (h0.below BA.out)
  have HS := Lib.hid (hs.below BA.out)
  have HGr := Lib.hid (great13 A n c 14 E _ H.out)
  have HLo := Lib.hid (fun u (hb : Below w.heap.size w u) => long19e e u (hc.below hb) h)
  have HWf := Lib.hid h
  have hbm := hs.rws.big
  unfold maxLen at hbm
  have HFt := Lib.hid (fun (hh : HonP E n sl e.e1) A m c => made_plain hh A m c)
  have HZf := Lib.hid (show ∀ z ∈ Q.M.st (selL (keysE e) sl), i64B z from fun z hz => sel_fit hfi z ((Q.M.mem_st _ _).1 hz))
  have HZl := Lib.hid (show (Q.M.st (selL (keysE e) sl)).length ≤ 5 from Nat.le_trans (Q.M.len_st _) (Nat.le_trans (sel_len _ _) (keys_len e)))
  clear h0 hc h p8 p9 hs hfi
  go_enter Try.func7, Try.ntmps7
  by_cases hm : 60 < m
  · have hmz : (60 : Int) < (m : Int) := by omega
    have C24 := Lib.hid True.intro
    clear HFt HZf HZl
    go_wp2_with (first
      | (go_at_call 18; (with_reducible refine HGr.out.mono ?_); rintro e1 w3 ⟨⟨q, rfl, hq⟩, hb⟩; have HQ := Lib.hid hq; have F3 := Lib.hid hb; have B3 := Lib.hid (BA.out.trans (hb.mono BA.out.size)); have R3 := Lib.hid (XA.out.below hb).range; clear hq hb; cases q)
      | (refine load_mid_g (by rfl) 34 _ rfl w.heap.size 0 rfl (cellsE e) _ R3.out Try.underlying34 rfl size39 ?_)
      | (go_at_call 10; (with_reducible refine (HLo.out _ B3.out).mono ?_); rintro e1 w4 ⟨⟨q, rfl, hq⟩, hb⟩; have HL := Lib.hid hq; have F4 := Lib.hid (F3.out.trans (hb.mono F3.out.size)); have R4 := Lib.hid (XA.out.below F4.out).range; have k1 := (XA.out.below F4.out).cell (i := 1) rfl; have B4 := Lib.hid (B3.out.trans (hb.mono B3.out.size)); clear hq hb; cases q)
      | (go_at_call 24; (with_reducible refine (C24.out _ F4.out).mono ?_); rintro e1 w5 ⟨⟨q, rfl, hq⟩, hb⟩; have HH := Lib.hid hq; have F5 := Lib.hid (F4.out.trans (hb.mono F4.out.size)); have X5 := Lib.hid (XA.out.below F5.out); have R5 := Lib.hid X5.out.range; have B5 := Lib.hid (B4.out.trans (hb.mono B4.out.size)); clear hq hb k1; cases q)
      | (go_at_call 14; (with_reducible refine (live14 _).mono ?_); rintro e1 w9 ⟨rfl, hb⟩; have B9 := Lib.hid (B5.out.trans (hb.mono B5.out.size)); clear hb)
      | (go_at_call 14; (with_reducible refine (live14 _).mono ?_); rintro e1 w9 ⟨rfl, hb⟩; have B9 := Lib.hid (B4.out.trans (hb.mono B4.out.size)); clear hb)
      | (go_at_call 14; (with_reducible refine (live14 _).mono ?_); rintro e1 w9 ⟨rfl, hb⟩; have B9 := Lib.hid (B3.out.trans (hb.mono B3.out.size)); clear hb)
      | go_in)
    all_goals
      go_ret
      exact ⟨rfl, B9.out⟩
  · have hmz : ¬ (60 : Int) < (m : Int) := by omega
    have C24 := Lib.hid (fun u (hb : Below (w.alloc (.cells #[.int .i64 e.e0, .string e.e1, .string e.e2, .int .i64 e.e3, .bool e.e4, .string e.e5, .int .i64 e.e6, .int .i64 e.e7, .slice e.a8 e.n8 e.c8, .slice e.a9 e.n9 e.c9, .string e.C.tx, .int .i64 e.C.n, .int .i64 e.C.tg, .bool e.C.th, .string e.C.via, .slice e.a.aA e.C.nA e.a.aC, .slice e.a.dA e.C.nD e.a.dC, .slice e.a.uA e.C.lv.nU e.a.uC, .slice e.a.kA e.C.lv.nK e.a.kC, .int .i64 e.C.lv.d, .int .i64 e.C.lv.x3, .int .i64 e.C.lv.x4, .int .i64 e.C.lv.x5, .int .i64 e.C.lv.x6, .int .i64 e.C.lv.x7, .int .i64 e.C.lv.x8, .int .i64 e.e26, .string e.e27, .int .i64 e.e28] 34)).heap.size (w.alloc (.cells #[.int .i64 e.e0, .string e.e1, .string e.e2, .int .i64 e.e3, .bool e.e4, .string e.e5, .int .i64 e.e6, .int .i64 e.e7, .slice e.a8 e.n8 e.c8, .slice e.a9 e.n9 e.c9, .string e.C.tx, .int .i64 e.C.n, .int .i64 e.C.tg, .bool e.C.th, .string e.C.via, .slice e.a.aA e.C.nA e.a.aC, .slice e.a.dA e.C.nD e.a.dC, .slice e.a.uA e.C.lv.nU e.a.uC, .slice e.a.kA e.C.lv.nK e.a.kC, .int .i64 e.C.lv.d, .int .i64 e.C.lv.x3, .int .i64 e.C.lv.x4, .int .i64 e.C.lv.x5, .int .i64 e.C.lv.x6, .int .i64 e.C.lv.x7, .int .i64 e.C.lv.x8, .int .i64 e.e26, .string e.e27, .int .i64 e.e28] 34)) u) => honest24 A n c E As m d sl e.e1 u (H.out.below hb) (HS.out.below hb) (by omega))
    have C16 := Lib.hid (fun u (hb : Below (w.alloc (.cells #[.int .i64 e.e0, .string e.e1, .string e.e2, .int .i64 e.e3, .bool e.e4, .string e.e5, .int .i64 e.e6, .int .i64 e.e7, .slice e.a8 e.n8 e.c8, .slice e.a9 e.n9 e.c9, .string e.C.tx, .int .i64 e.C.n, .int .i64 e.C.tg, .bool e.C.th, .string e.C.via, .slice e.a.aA e.C.nA e.a.aC, .slice e.a.dA e.C.nD e.a.dC, .slice e.a.uA e.C.lv.nU e.a.uC, .slice e.a.kA e.C.lv.nK e.a.kC, .int .i64 e.C.lv.d, .int .i64 e.C.lv.x3, .int .i64 e.C.lv.x4, .int .i64 e.C.lv.x5, .int .i64 e.C.lv.x6, .int .i64 e.C.lv.x7, .int .i64 e.C.lv.x8, .int .i64 e.e26, .string e.e27, .int .i64 e.e28] 34)).heap.size (w.alloc (.cells #[.int .i64 e.e0, .string e.e1, .string e.e2, .int .i64 e.e3, .bool e.e4, .string e.e5, .int .i64 e.e6, .int .i64 e.e7, .slice e.a8 e.n8 e.c8, .slice e.a9 e.n9 e.c9, .string e.C.tx, .int .i64 e.C.n, .int .i64 e.C.tg, .bool e.C.th, .string e.C.via, .slice e.a.aA e.C.nA e.a.aC, .slice e.a.dA e.C.nD e.a.dC, .slice e.a.uA e.C.lv.nU e.a.uC, .slice e.a.kA e.C.lv.nK e.a.kC, .int .i64 e.C.lv.d, .int .i64 e.C.lv.x3, .int .i64 e.C.lv.x4, .int .i64 e.C.lv.x5, .int .i64 e.C.lv.x6, .int .i64 e.C.lv.x7, .int .i64 e.C.lv.x8, .int .i64 e.e26, .string e.e27, .int .i64 e.e28] 34)) u) => select16N e As m d sl u HWf.out (HS.out.below hb) (by omega))
    unfold IntNw at C16
    generalize Q.M.st (selL (keysE e) sl) = zs at HFt HZf HZl C16
    go_upto_region 4 with (first
      | (go_at_call 18; (with_reducible refine HGr.out.mono ?_); rintro e1 w3 ⟨⟨q, rfl, hq⟩, hb⟩; have HQ := Lib.hid hq; have F3 := Lib.hid hb; have B3 := Lib.hid (BA.out.trans (hb.mono BA.out.size)); have R3 := Lib.hid (XA.out.below hb).range; clear hq hb; cases q)
      | (refine load_mid_g (by rfl) 34 _ rfl w.heap.size 0 rfl (cellsE e) _ R3.out Try.underlying34 rfl size39 ?_)
      | (go_at_call 10; (with_reducible refine (HLo.out _ B3.out).mono ?_); rintro e1 w4 ⟨⟨q, rfl, hq⟩, hb⟩; have HL := Lib.hid hq; have F4 := Lib.hid (F3.out.trans (hb.mono F3.out.size)); have R4 := Lib.hid (XA.out.below F4.out).range; have k1 := (XA.out.below F4.out).cell (i := 1) rfl; have B4 := Lib.hid (B3.out.trans (hb.mono B3.out.size)); clear hq hb; cases q)
      | (go_at_call 24; (with_reducible refine (C24.out _ F4.out).mono ?_); rintro e1 w5 ⟨⟨q, rfl, hq⟩, hb⟩; have HH := Lib.hid hq; have F5 := Lib.hid (F4.out.trans (hb.mono F4.out.size)); have X5 := Lib.hid (XA.out.below F5.out); have R5 := Lib.hid X5.out.range; have B5 := Lib.hid (B4.out.trans (hb.mono B4.out.size)); clear hq hb k1; cases q)
      | (refine load_mid_g (by rfl) 34 _ rfl w.heap.size 0 rfl (cellsE e) _ R5.out Try.underlying34 rfl size39 ?_)
      | (go_at_call 16; (with_reducible refine (C16.out _ F5.out).mono ?_); rintro e1 w6 ⟨A6, c6, rfl, hi, hb, hnw⟩; have I6 := Lib.hid hi; have N6 := Lib.hid hnw; have X6 := Lib.hid (X5.out.below hb); have B6 := Lib.hid (B5.out.trans (hb.mono B5.out.size)); have k9 := X6.out.cell (i := 9) rfl; have z9 := X6.out.free 9; clear hi hb hnw)
      | (go_at_call 14; (with_reducible refine (live14 _).mono ?_); rintro e1 w9 ⟨rfl, hb⟩; have B9 := Lib.hid (B5.out.trans (hb.mono B5.out.size)); clear hb)
      | (go_at_call 14; (with_reducible refine (live14 _).mono ?_); rintro e1 w9 ⟨rfl, hb⟩; have B9 := Lib.hid (B4.out.trans (hb.mono B4.out.size)); clear hb)
      | (go_at_call 14; (with_reducible refine (live14 _).mono ?_); rintro e1 w9 ⟨rfl, hb⟩; have B9 := Lib.hid (B3.out.trans (hb.mono B3.out.size)); clear hb)
      | fail)
    · go_ret
      exact ⟨rfl, B9.out⟩
    · have X7 := Lib.hid (show Blk (w6.setCell ⟨w.heap.size, 9, none⟩ (.slice A6 zs.length c6)) w.heap.size (cellsE (setAuth e A6 zs.length c6 zs)) 34 from X6.out.set 9 (.slice A6 zs.length c6))
      have B7 := Lib.hid (B6.out.setCell (p := ⟨w.heap.size, 9, none⟩) (Nat.le_refl _) (.slice A6 zs.length c6))
      have I7 := Lib.hid (its_other (ints_its I6.out HZf.out) ⟨w.heap.size, 9, none⟩ (.slice A6 zs.length c6) (fun _ b off e1 => by have h1 := N6.out b off e1; have h2 := X5.out.lt; show b ≠ w.heap.size; omega))
      generalize w6.setCell ⟨w.heap.size, 9, none⟩ (.slice A6 zs.length c6) = w7 at X7 B7 I7 ⊢
      have H7 := Lib.hid (H0.out.below B7.out)
      have HFt0 : Hid (fitsE E n (setAuth e A6 zs.length c6 zs) = 0) := Lib.hid (HFt.out (HH.out (by first | rfl | trivial)) A6 zs.length c6)
      have HFe := Lib.hid (HQ.out (by first | rfl | trivial)).2
      have HWs := Lib.hid (wf_set HWf.out A6 zs.length c6 zs (by have := HZl.out; omega))
      have HC9 := Lib.hid (show ∀ u, Below w7.heap.size w7 u → u.cell? ⟨w.heap.size, 9, none⟩ = some (.slice A6 zs.length c6) from fun u hb => (X7.out.below hb).cell (i := 9) rfl)
      clear k9 z9 X6 B6 I6 N6 X5 B5 B4 B3 R5 R3 R4 F3 F4 F5 C16 C24 HFt HH HQ HL HGr HLo HS H H0 BA XA HZf HWf
      generalize he7 : setAuth e A6 zs.length c6 zs = e7 at X7 HFt0 HWs
      have HP9 := Lib.hid (show e7.p9 = zs by rw [← he7]; rfl)
      have HI9 := Lib.hid (show Its w7 e7.a9 e7.n9 e7.c9 e7.p9 by rw [← he7]; exact I7.out)
      have HN9 := Lib.hid (show e7.n9 = zs.length by rw [← he7]; rfl)
      clear he7
      have HWp := Lib.hid (whole_plain HFt0.out)
      have C19 := Lib.hid (fun u (hb : Below w7.heap.size w7 u) => (show Calls Try.prog 19 #[.slice A n c, .agg (cellsE e7).toArray] u (fun r w' => r = .returned (.int .i64 0) ∧ Below u.heap.size u w') from by have h1 := fits19 A n c E e7 u (H7.out.below hb) HWs.out (HI9.out.below hb) (by rw [HN9.out]; have := HZl.out; omega); rwa [HFt0.out] at h1))
      have C22 := Lib.hid (fun u (hb : Below w7.heap.size w7 u) => (show Calls Try.prog 22 #[.slice A n c, .agg (cellsE e7).toArray] u (fun r w' => ∃ (A1 : Option Addr) (c1 : Nat) (es : List Evd), r = .returned (.slice A1 zs.length c1) ∧ Evx w' A1 zs.length (fun j => es.getD j ev0) ∧ es.map dat = fromD E n e7 ∧ Below u.heap.size u w') from by
        have h1 := from22 A n c E e7 u (H7.out.below hb) HWs.out (HI9.out.below hb) (by rw [HN9.out]; have := HZl.out; omega) HFe.out
        unfold EvsP at h1
        rw [show (fromD E n e7).length = zs.length by rw [HWp.out.1, HP9.out]] at h1
        exact h1))
      have HSt := Lib.hid (fun (es : List Evd) (he : es.map dat = fromD E n e7) => (show Q.M.st (idsO zs.length (fun j => es.getD j ev0)) = Q.M.st zs from by
        refine Q.M.st_congr fun z => ?_
        rw [show zs.length = (fromD E n e7).length by rw [HWp.out.1, HP9.out], idsO_es he, ← HP9.out]
        exact HWp.out.2 z))
      have HS2 := Lib.hid (fun u (hb : Below w7.heap.size w7 u) => Q.rsorted_any A6 zs.length c6 zs u (its_ints (I7.out.below hb) (by have := HZl.out; omega)) (by have := HZl.out; omega))
      unfold Q.IntsP at HS2
      generalize Q.M.st zs = L at HSt HS2
      clear HFe HFt0 HWs HP9 HI9 HN9 HWp H7 I7
      refine wp_region_held_drew (S := (fun y => Below w7.heap.size w7 y)) (by kernel_rfl) ((Below.refl w7.heap.size w7).drew) (fun hH0 => ?_)
      generalize hy0 : World.drew _ = y0 at hH0 ⊢
      have RB0 : Hid (Below w7.heap.size w7 y0) := Lib.hid hH0
      clear hy0
      refine wpAnyH_take (i := 0) (oi := ({ dst := some 31, op := Op.move (Operand.tmp 0), type := 44, pos := "law.go:78", after := #[], guard := none } : Oper)) (v := ?hv1) rfl (by kernel_rfl) (by kernel_rfl) (by kernel_rfl) (fun _ _ _ h => h) (Or.inl ⟨by rfl, ?hy1⟩) (by assumption) ?hr1
      case hy1 => (intro w hSw; (try dsimp only at hSw); go_simp; (try with_reducible rfl))
      try simp only [Act.put, List.setIfInBounds_toArray, List.set_cons_zero, List.set_cons_succ]
      refine wpAnyH_take (i := 1) (oi := ({ dst := some 32, op := Op.load 34 (Operand.tmp 4), type := 34, pos := "law.go:78", after := #[], guard := none } : Oper)) (v := .agg (cellsE e7).toArray) rfl (by kernel_rfl) (by kernel_rfl) (by kernel_rfl) (fun _ _ _ h => h) (yieldsIf_load_mid (by rfl) 34 _ rfl w.heap.size 0 rfl (cellsE e7) _ (fun w0 hw0 => (X7.out.below hw0).range) Try.underlying34 rfl size39) (by assumption) ?_
      try simp only [Act.put, List.setIfInBounds_toArray, List.set_cons_zero, List.set_cons_succ]
      refine wpAnyH_ready (rs := [2]) (by kernel_rfl) (by simp) ?_
      refine AllReadyH.cons (o := ({ dst := some 33, op := Op.call { callee := Callee.value (Operand.func 19), args := #[Operand.tmp 31, Operand.tmp 32], argTypes := #[44, 34] }, type := 46, pos := "law.go:78", after := #[{ on := 0, ground := Ground.data }, { on := 1, ground := Ground.data }], guard := none } : Oper)) rfl (fun KK hKK => ?_) AllReadyH.nil
      go_simp
      (with_reducible refine (C19.out _ RB0.out).mono ?_)
      rintro e0 y1 ⟨rfl, hb⟩
      have RB1 := Lib.hid (RB0.out.trans (hb.mono RB0.out.size))
      clear hb
      refine hKK.out _ _ (RB1.out) (fun hH1 => ?_)
      clear hKK KK
      try simp only [Act.put, List.setIfInBounds_toArray, List.set_cons_zero, List.set_cons_succ]
      refine wpAnyH_take (i := 3) (oi := ({ dst := some 34, op := Op.binOp BinOp.eql 46 (Operand.tmp 33) (Operand.const (Value.int IntKind.i64 0)) 46, type := 4, pos := "law.go:78", after := #[{ on := 2, ground := Ground.data }], guard := none } : Oper)) (v := ?hv2) rfl (by kernel_rfl) (by kernel_rfl) (by kernel_rfl) (fun _ _ _ h => h) (Or.inl ⟨by rfl, ?hy2⟩) (by assumption) ?hr2
      case hy2 => (intro w hSw; (try dsimp only at hSw); go_simp; (try with_reducible rfl))
      try simp only [Act.put, List.setIfInBounds_toArray, List.set_cons_zero, List.set_cons_succ]
      refine wpAnyH_take (i := 4) (oi := ({ dst := some 35, op := Op.move (Operand.tmp 34), type := 4, pos := "law.go:78", after := #[{ on := 3, ground := Ground.data }, { on := 2, ground := Ground.chain }], guard := none } : Oper)) (v := ?hv3) rfl (by kernel_rfl) (by kernel_rfl) (by kernel_rfl) (fun _ _ _ h => h) (Or.inl ⟨by rfl, ?hy3⟩) (by assumption) ?hr3
      case hy3 => (intro w hSw; (try dsimp only at hSw); go_simp; (try with_reducible rfl))
      try simp only [Act.put, List.setIfInBounds_toArray, List.set_cons_zero, List.set_cons_succ]
      refine wpAnyH_take (i := 5) (oi := ({ dst := some 36, op := Op.move (Operand.tmp 0), type := 44, pos := "law.go:78", after := #[{ on := 4, ground := Ground.guard }], guard := some (4, true) } : Oper)) (v := ?hv4) rfl (by kernel_rfl) (by kernel_rfl) (by kernel_rfl) (fun _ _ _ h => h) (Or.inl ⟨by rfl, ?hy4⟩) (by assumption) ?hr4
      case hy4 => (intro w hSw; (try dsimp only at hSw); go_simp; (try with_reducible rfl))
      try simp only [Act.put, List.setIfInBounds_toArray, List.set_cons_zero, List.set_cons_succ]
      refine wpAnyH_take (i := 6) (oi := ({ dst := some 37, op := Op.load 34 (Operand.tmp 4), type := 34, pos := "law.go:78", after := #[{ on := 4, ground := Ground.guard }], guard := some (4, true) } : Oper)) (v := .agg (cellsE e7).toArray) rfl (by kernel_rfl) (by kernel_rfl) (by kernel_rfl) (fun _ _ _ h => h) (yieldsIf_load_mid (by rfl) 34 _ rfl w.heap.size 0 rfl (cellsE e7) _ (fun w0 hw0 => (X7.out.below hw0).range) Try.underlying34 rfl size39) (by assumption) ?_
      try simp only [Act.put, List.setIfInBounds_toArray, List.set_cons_zero, List.set_cons_succ]
      refine wpAnyH_take (i := 10) (oi := ({ dst := some 41, op := Op.fieldAddr 34 (Operand.tmp 4) 9, type := 0, pos := "law.go:78", after := #[{ on := 4, ground := Ground.guard }], guard := some (4, true) } : Oper)) (v := ?hv5) rfl (by kernel_rfl) (by kernel_rfl) (by kernel_rfl) (fun _ _ _ h => h) (Or.inl ⟨by rfl, ?hy5⟩) (by assumption) ?hr5
      case hy5 => (intro w hSw; (try dsimp only at hSw); go_simp; (try with_reducible rfl))
      try simp only [Act.put, List.setIfInBounds_toArray, List.set_cons_zero, List.set_cons_succ]
      refine wpAnyH_take (i := 11) (oi := ({ dst := some 42, op := Op.load 23 (Operand.tmp 41), type := 23, pos := "law.go:78", after := #[{ on := 10, ground := Ground.data }, { on := 4, ground := Ground.guard }], guard := some (4, true) } : Oper)) (v := .slice A6 zs.length c6) rfl (by kernel_rfl) (by kernel_rfl) (by kernel_rfl) (fun _ _ _ h => h) (Or.inl ⟨by rfl, fun w0 hw0 => by have q0 := HC9.out w0 hw0; go_simp⟩) (by assumption) ?_
      try simp only [Act.put, List.setIfInBounds_toArray, List.set_cons_zero, List.set_cons_succ]
      refine wpAnyH_ready (rs := [7]) (by kernel_rfl) (by simp) ?_
      refine AllReadyH.cons (o := ({ dst := some 38, op := Op.call { callee := Callee.value (Operand.func 22), args := #[Operand.tmp 36, Operand.tmp 37], argTypes := #[44, 34] }, type := 44, pos := "law.go:78", after := #[{ on := 5, ground := Ground.data }, { on := 6, ground := Ground.data }, { on := 4, ground := Ground.chain }, { on := 4, ground := Ground.guard }], guard := some (4, true) } : Oper)) rfl (fun KK hKK => ?_) AllReadyH.nil
      go_simp
      (with_reducible refine (C22.out _ RB1.out).mono ?_)
      rintro e0 y2 ⟨A1, c1, es, rfl, hx, he, hb⟩
      have RB2 := Lib.hid (RB1.out.trans (hb.mono RB1.out.size))
      have G1 := Lib.hid hx
      have HI1 := Lib.hid (HSt.out es he)
      have C26 := Lib.hid (fun u (hb : Below y2.heap.size y2 u) => ids26 A1 zs.length c1 (fun j => es.getD j ev0) u (G1.out.below hb) (by have := HZl.out; omega))
      have HS1 := Lib.hid (fun A c u (h : Q.Ints u A (idsO zs.length (fun j => es.getD j ev0)).length c (idsO zs.length (fun j => es.getD j ev0))) => (show Calls Try.prog 25 #[.slice A (idsO zs.length (fun j => es.getD j ev0)).length c] u (Q.IntsP u L) from by
        have h2 := Q.rsorted_any A _ c _ u h (by rw [idsO_len]; have := HZl.out; omega)
        rwa [HI1.out] at h2))
      clear hx he
      generalize idsO zs.length (fun j => es.getD j ev0) = L1 at C26 HS1
      unfold IntP at C26
      clear hb
      refine hKK.out _ _ (RB2.out) (fun hH2 => ?_)
      clear hKK KK
      try simp only [Act.put, List.setIfInBounds_toArray, List.set_cons_zero, List.set_cons_succ]
      refine wpAnyH_ready (rs := [8]) (by kernel_rfl) (by simp) ?_
      refine AllReadyH.cons (o := ({ dst := some 39, op := Op.call { callee := Callee.value (Operand.func 26), args := #[Operand.tmp 38], argTypes := #[44] }, type := 23, pos := "law.go:78", after := #[{ on := 7, ground := Ground.data }, { on := 7, ground := Ground.chain }, { on := 4, ground := Ground.guard }], guard := some (4, true) } : Oper)) rfl (fun KK hKK => ?_) AllReadyH.nil
      go_simp
      (with_reducible refine (C26.out _ (Below.refl _ _)).mono ?_)
      rintro e0 y3 ⟨A2, c2, rfl, h2, hb⟩
      have RB3 := Lib.hid (RB2.out.trans (hb.mono RB2.out.size))
      have G2 := Lib.hid h2
      clear hb
      refine hKK.out _ _ (RB3.out) (fun hH3 => ?_)
      clear hKK KK
      try simp only [Act.put, List.setIfInBounds_toArray, List.set_cons_zero, List.set_cons_succ]
      refine wpAnyH_ready (rs := [9]) (by kernel_rfl) (by simp) ?_
      refine AllReadyH.cons (o := ({ dst := some 40, op := Op.call { callee := Callee.value (Operand.func 25), args := #[Operand.tmp 39], argTypes := #[23] }, type := 23, pos := "law.go:78", after := #[{ on := 8, ground := Ground.data }, { on := 8, ground := Ground.chain }, { on := 4, ground := Ground.guard }], guard := some (4, true) } : Oper)) rfl (fun KK hKK => ?_) AllReadyH.nil
      go_simp
      (with_reducible refine (HS1.out _ _ _ G2.out).mono ?_)
      rintro e0 y4 ⟨A3, c3, rfl, h3, hb⟩
      have RB4 := Lib.hid (RB3.out.trans (hb.mono RB3.out.size))
      have G2 := Lib.hid (G2.out.below hb)
      have G3 := Lib.hid h3
      clear hb
      refine hKK.out _ _ (RB4.out) (fun hH4 => ?_)
      clear hKK KK
      try simp only [Act.put, List.setIfInBounds_toArray, List.set_cons_zero, List.set_cons_succ]
      refine wpAnyH_ready (rs := [12]) (by kernel_rfl) (by simp) ?_
      refine AllReadyH.cons (o := ({ dst := some 43, op := Op.call { callee := Callee.value (Operand.func 25), args := #[Operand.tmp 42], argTypes := #[23] }, type := 23, pos := "law.go:78", after := #[{ on := 11, ground := Ground.data }, { on := 9, ground := Ground.chain }, { on := 4, ground := Ground.guard }], guard := some (4, true) } : Oper)) rfl (fun KK hKK => ?_) AllReadyH.nil
      go_simp
      (with_reducible refine (HS2.out _ RB4.out).mono ?_)
      rintro e0 y5 ⟨A4, c4, rfl, h4, hb⟩
      have RB5 := Lib.hid (RB4.out.trans (hb.mono RB4.out.size))
      have G2 := Lib.hid (G2.out.below hb)
      have G3 := Lib.hid (G3.out.below hb)
      have G4 := Lib.hid h4
      clear hb
      refine hKK.out _ _ (RB5.out) (fun hH5 => ?_)
      clear hKK KK
      try simp only [Act.put, List.setIfInBounds_toArray, List.set_cons_zero, List.set_cons_succ]
      refine wpAnyH_ready (rs := [13]) (by kernel_rfl) (by simp) ?_
      refine AllReadyH.cons (o := ({ dst := some 44, op := Op.call { callee := Callee.value (Operand.func 15), args := #[Operand.tmp 40, Operand.tmp 43], argTypes := #[23, 23] }, type := 4, pos := "law.go:78", after := #[{ on := 9, ground := Ground.data }, { on := 12, ground := Ground.data }, { on := 12, ground := Ground.chain }, { on := 4, ground := Ground.guard }], guard := some (4, true) } : Oper)) rfl (fun KK hKK => ?_) AllReadyH.nil
      go_simp
      (with_reducible refine (sameR _ _ L.length _ _ L _ G3.out G4.out).mono ?_)
      rintro e0 y6 ⟨rfl, hb⟩
      have RB6 := Lib.hid (RB5.out.trans (hb.mono RB5.out.size))
      have G2 := Lib.hid (G2.out.below hb)
      have G3 := Lib.hid (G3.out.below hb)
      have G4 := Lib.hid (G4.out.below hb)
      clear hb
      refine hKK.out _ _ (RB6.out) (fun hH6 => ?_)
      clear hKK KK
      try simp only [Act.put, List.setIfInBounds_toArray, List.set_cons_zero, List.set_cons_succ]
      refine wpAnyH_take (i := 14) (oi := ({ dst := some 45, op := Op.pick (Operand.tmp 35) (Operand.tmp 44) (Operand.const (Value.bool false)), type := 4, pos := "law.go:78", after := #[{ on := 4, ground := Ground.data }, { on := 13, ground := Ground.data }], guard := none } : Oper)) (v := ?hv6) rfl (by kernel_rfl) (by kernel_rfl) (by kernel_rfl) (fun _ _ _ h => h) (Or.inl ⟨by rfl, ?hy6⟩) (by assumption) ?hr6
      case hy6 => (intro w hSw; (try dsimp only at hSw); go_simp; (try with_reducible rfl))
      try simp only [Act.put, List.setIfInBounds_toArray, List.set_cons_zero, List.set_cons_succ]
      refine wpAnyH_take (i := 15) (oi := ({ dst := some 46, op := Op.move (Operand.tmp 45), type := 4, pos := "law.go:78", after := #[{ on := 14, ground := Ground.data }, { on := 13, ground := Ground.chain }], guard := none } : Oper)) (v := ?hv7) rfl (by kernel_rfl) (by kernel_rfl) (by kernel_rfl) (fun _ _ _ h => h) (Or.inl ⟨by rfl, ?hy7⟩) (by assumption) ?hr7
      case hy7 => (intro w hSw; (try dsimp only at hSw); go_simp; (try with_reducible rfl))
      try simp only [Act.put, List.setIfInBounds_toArray, List.set_cons_zero, List.set_cons_succ]
      refine wpAnyH_ready (rs := [16]) (by kernel_rfl) (by simp) ?_
      refine AllReadyH.cons (o := ({ dst := some 47, op := Op.call { callee := Callee.value (Operand.func 14), args := #[], argTypes := #[] }, type := 4, pos := "law.go:78", after := #[{ on := 15, ground := Ground.chain }, { on := 15, ground := Ground.guard }], guard := some (15, true) } : Oper)) rfl (fun KK hKK => ?_) AllReadyH.nil
      go_simp
      (with_reducible refine (live14 _).mono ?_)
      rintro e0 y7 ⟨rfl, hb⟩
      have RB7 := Lib.hid (RB6.out.trans (hb.mono RB6.out.size))
      have G2 := Lib.hid (G2.out.below hb)
      have G3 := Lib.hid (G3.out.below hb)
      have G4 := Lib.hid (G4.out.below hb)
      clear hb
      refine hKK.out _ _ (RB7.out) (fun hH7 => ?_)
      clear hKK KK
      try simp only [Act.put, List.setIfInBounds_toArray, List.set_cons_zero, List.set_cons_succ]
      refine wpAnyH_take (i := 17) (oi := ({ dst := some 48, op := Op.pick (Operand.tmp 46) (Operand.tmp 47) (Operand.const (Value.bool false)), type := 4, pos := "law.go:78", after := #[{ on := 15, ground := Ground.data }, { on := 16, ground := Ground.data }], guard := none } : Oper)) (v := ?hv8) rfl (by kernel_rfl) (by kernel_rfl) (by kernel_rfl) (fun _ _ _ h => h) (Or.inl ⟨by rfl, ?hy8⟩) (by assumption) ?hr8
      case hy8 => (intro w hSw; (try dsimp only at hSw); go_simp; (try with_reducible rfl))
      try simp only [Act.put, List.setIfInBounds_toArray, List.set_cons_zero, List.set_cons_succ]
      refine wpAnyH_take (i := 18) (oi := ({ dst := some 6, op := Op.assign (Operand.tmp 48), type := 4, pos := "law.go:78", after := #[{ on := 17, ground := Ground.data }, { on := 16, ground := Ground.chain }, { on := 0, ground := Ground.phase }, { on := 1, ground := Ground.phase }, { on := 2, ground := Ground.phase }, { on := 3, ground := Ground.phase }, { on := 4, ground := Ground.phase }, { on := 5, ground := Ground.phase }, { on := 6, ground := Ground.phase }, { on := 7, ground := Ground.phase }, { on := 8, ground := Ground.phase }, { on := 9, ground := Ground.phase }, { on := 10, ground := Ground.phase }, { on := 11, ground := Ground.phase }, { on := 12, ground := Ground.phase }, { on := 13, ground := Ground.phase }, { on := 14, ground := Ground.phase }, { on := 15, ground := Ground.phase }, { on := 16, ground := Ground.phase }, { on := 17, ground := Ground.phase }], guard := none } : Oper)) (v := ?hv9) rfl (by kernel_rfl) (by kernel_rfl) (by kernel_rfl) (fun _ _ _ h => h) (Or.inl ⟨by rfl, ?hy9⟩) (by assumption) ?hr9
      case hy9 => (intro w hSw; (try dsimp only at hSw); go_simp; (try with_reducible rfl))
      try simp only [Act.put, List.setIfInBounds_toArray, List.set_cons_zero, List.set_cons_succ]
      refine wpAnyH_done (by kernel_rfl) ?_ _
      go_wp2
      go_ret
      exact ⟨rfl, B7.out.trans (RB7.out.mono B7.out.size)⟩
    all_goals
      go_ret
      exact ⟨rfl, B9.out⟩
end Go.Proofs.Ytbedibiodlgegaa
