/- clone.Event: the same data, its lists elsewhere. Condition: short lists. -/
import Derived.Test.YtbedibiodlgegaaYC1
import Derived.Test.YtbedibiodlgegaaR1
namespace Go.Proofs.Ytbedibiodlgegaa
open Go.RowKit
set_option linter.unusedVariables false
set_option linter.unusedSimpArgs false

abbrev z29 : List Value := evc 0 ⟨#[]⟩ ⟨#[]⟩ 0 false ⟨#[]⟩ 0 0 none 0 0 none 0 0 ⟨#[]⟩ 0 0 false ⟨#[]⟩ none 0 0 none 0 0 none 0 0 none 0 0 0 0 0 0 0 0 0 0 ⟨#[]⟩ 0
/-- What a copy of an event is. -/
def EvC (e0 : Int) (e1 e2 : ByteArray) (e3 : Int) (e4 : Bool) (e5 : ByteArray) (e6 e7 : Int) (a8 : Option Addr) (n8 c8 : Nat) (a9 : Option Addr) (n9 c9 : Nat) (tx : ByteArray) (n tg : Int) (th : Bool) (via : ByteArray) (aA : Option Addr) (nA aC : Nat) (dA : Option Addr) (nD dC : Nat) (uA : Option Addr) (nU uC : Nat) (kA : Option Addr) (nK kC : Nat) (d x3 x4 x5 x6 x7 x8 : Int) (e26 : Int) (e27 : ByteArray) (e28 : Int) (w : World) (r : Ending) (w' : World) : Prop :=
  ∃ A8 d8 A9 d9 a, r = .returned (.agg (evc e0 e1 e2 e3 e4 e5 e6 e7 A8 n8 d8 A9 n9 d9 tx n tg th via (Ads.aA a) nA (Ads.aC a) (Ads.dA a) nD (Ads.dC a) (Ads.uA a) nU (Ads.uC a) (Ads.kA a) nK (Ads.kC a) d x3 x4 x5 x6 x7 x8 e26 e27 e28).toArray) ∧ Below w.heap.size w w'
set_option maxRecDepth 100000 in
set_option maxHeartbeats 8000000 in
theorem clone39 (e0 : Int) (e1 e2 : ByteArray) (e3 : Int) (e4 : Bool) (e5 : ByteArray) (e6 e7 : Int) (a8 : Option Addr) (n8 c8 : Nat) (a9 : Option Addr) (n9 c9 : Nat) (tx : ByteArray) (n tg : Int) (th : Bool) (via : ByteArray) (aA : Option Addr) (nA aC : Nat) (dA : Option Addr) (nD dC : Nat) (uA : Option Addr) (nU uC : Nat) (kA : Option Addr) (nK kC : Nat) (d x3 x4 x5 x6 x7 x8 : Int) (e26 : Int) (e27 : ByteArray) (e28 : Int) (al dn : List ByteArray) (U : Nat → ByteArray × Int) (K : Nat → Int × Int) (L8 L9 : Nat → List Value) (w : World)
    (h8 : Rws w a8 n8 c8 1 L8) (h9 : Rws w a9 n9 c9 1 L9) (hc : IsCt w ⟨tx, n, tg, th, via, nA, al, nD, dn, ⟨nU, U, nK, K, d, x3, x4, x5, x6, x7, x8⟩⟩ ⟨aA, aC, dA, dC, uA, uC, kA, kC⟩) (hf : Few n8 n9 nA nD nU nK) :
    Calls Try.prog 43 #[.agg (evc e0 e1 e2 e3 e4 e5 e6 e7 a8 n8 c8 a9 n9 c9 tx n tg th via aA nA aC dA nD dC uA nU uC kA nK kC d x3 x4 x5 x6 x7 x8 e26 e27 e28).toArray] w (EvC e0 e1 e2 e3 e4 e5 e6 e7 a8 n8 c8 a9 n9 c9 tx n tg th via aA nA aC dA nD dC uA nU uC kA nK kC d x3 x4 x5 x6 x7 x8 e26 e27 e28 w) := by
  have B0 := Lib.hid (((Below.refl w.heap.size w).alloc (Nat.le_refl _) (.cells (evc e0 e1 e2 e3 e4 e5 e6 e7 a8 n8 c8 a9 n9 c9 tx n tg th via aA nA aC dA nD dC uA nU uC kA nK kC d x3 x4 x5 x6 x7 x8 e26 e27 e28).toArray 34)).alloc (by simp) (.cells z29.toArray 34))
  have X0 := Lib.hid ((blk_new w (evc e0 e1 e2 e3 e4 e5 e6 e7 a8 n8 c8 a9 n9 c9 tx n tg th via aA nA aC dA nD dC uA nU uC kA nK kC d x3 x4 x5 x6 x7 x8 e26 e27 e28) 34).alloc (.cells z29.toArray 34))
  have Y0 := Lib.hid (show Blk ((w.alloc (.cells (evc e0 e1 e2 e3 e4 e5 e6 e7 a8 n8 c8 a9 n9 c9 tx n tg th via aA nA aC dA nD dC uA nU uC kA nK kC d x3 x4 x5 x6 x7 x8 e26 e27 e28).toArray 34)).alloc (.cells z29.toArray 34)) (w.heap.size + 1) z29 34 by
    have := blk_new (w.alloc (.cells (evc e0 e1 e2 e3 e4 e5 e6 e7 a8 n8 c8 a9 n9 c9 tx n tg th via aA nA aC dA nD dC uA nU uC kA nK kC d x3 x4 x5 x6 x7 x8 e26 e27 e28).toArray 34)) z29 34
    have e : (w.alloc (.cells (evc e0 e1 e2 e3 e4 e5 e6 e7 a8 n8 c8 a9 n9 c9 tx n tg th via aA nA aC dA nD dC uA nU uC kA nK kC d x3 x4 x5 x6 x7 x8 e26 e27 e28).toArray 34)).heap.size = w.heap.size + 1 := by simp
    rw [e] at this
    exact this)
  have H8 := Lib.hid h8
  have H9 := Lib.hid h9
  have HC := Lib.hid hc
  have F8 := Lib.hid (show n8 * 8 ≤ 140737488355328 by have := hf.1; omega)
  have F9 := Lib.hid (show n9 * 8 ≤ 140737488355328 by have := hf.2.1; omega)
  have HS := Lib.hid (show Sm ⟨tx, n, tg, th, via, nA, al, nD, dn, ⟨nU, U, nK, K, d, x3, x4, x5, x6, x7, x8⟩⟩ from ⟨by have := hf.2.2.1; simp; omega, by have := hf.2.2.2.1; simp; omega, by have := hf.2.2.2.2.1; simp; omega, by have := hf.2.2.2.2.2; simp; omega⟩)
  clear h8 h9 hc hf
  show Calls Try.prog 43 #[.agg #[.int .i64 e0, .string e1, .string e2, .int .i64 e3, .bool e4, .string e5, .int .i64 e6, .int .i64 e7, .slice a8 n8 c8, .slice a9 n9 c9, .string tx, .int .i64 n, .int .i64 tg, .bool th, .string via, .slice aA nA aC, .slice dA nD dC, .slice uA nU uC, .slice kA nK kC, .int .i64 d, .int .i64 x3, .int .i64 x4, .int .i64 x5, .int .i64 x6, .int .i64 x7, .int .i64 x8, .int .i64 e26, .string e27, .int .i64 e28]] w _
  go_enter Try.func43, Try.ntmps43
  go_wp2_with (first
    | (go_at_call 47; (with_reducible refine (clone48 a8 n8 c8 L8 _ (H8.out.below B0.out) F8.out).mono ?_); rintro e w1 ⟨A1, c1, rfl, k1⟩; have X1 := Lib.hid (X0.out.below k1.bel); have Y1 := Lib.hid (Y0.out.below k1.bel); have B1 := Lib.hid (B0.out.trans (k1.bel.mono B0.out.size)); have i8 := X1.out.cell (i := 8) rfl; have i9 := X1.out.cell (i := 9) rfl; have z8 := X1.out.free 8; clear k1; have B1s := Lib.hid (B1.out.setCell (p := ⟨w.heap.size, 8, none⟩) (Nat.le_refl _) (.slice A1 n8 c1)))
    | (go_at_call 47; refine (clone48 a9 n9 c9 L9 _ (H9.out.below B1s.out) F9.out).mono ?_; rintro e w2 ⟨A2, c2, rfl, k2⟩; have X2 := Lib.hid ((X1.out.set 8 (.slice A1 n8 c1)).below k2.bel); have Y2 := Lib.hid ((Y1.out.other ⟨w.heap.size, 8, none⟩ (.slice A1 n8 c1) (by simp)).below k2.bel); have B2 := Lib.hid (B1s.out.trans (k2.bel.mono B1s.out.size)); clear i8 i9 z8; have i9 := X2.out.cell (i := 9) rfl; have z9 := X2.out.free 9; clear k2; have B2s := Lib.hid (B2.out.setCell (p := ⟨w.heap.size, 9, none⟩) (Nat.le_refl _) (.slice A2 n9 c2)); have X2s := Lib.hid (X2.out.set 9 (.slice A2 n9 c2)); have Y2s := Lib.hid (Y2.out.other ⟨w.heap.size, 9, none⟩ (.slice A2 n9 c2) (by simp)))
    | (refine wpList_load_mid rfl 30 _ rfl w.heap.size 10 rfl (ctc tx n tg th via aA nA aC dA nD dC uA nU uC kA nK kC d x3 x4 x5 x6 x7 x8) _ (X2s.out.mid 10 16) Try.underlying30 rfl size28c ?_)
    | (go_at_call 55; refine (clone22 tx n tg th via aA nA aC dA nD dC uA nU uC kA nK kC d x3 x4 x5 x6 x7 x8 al dn U K _ (HC.out.below B2s.out).al (HC.out.below B2s.out).dn (HC.out.below B2s.out).us (HC.out.below B2s.out).ks HS.out).mono ?_; rintro e w3 ⟨a, rfl, _, _, kb⟩; have X3 := Lib.hid (show Blk w3 w.heap.size (evc e0 e1 e2 e3 e4 e5 e6 e7 A1 n8 c1 A2 n9 c2 tx n tg th via aA nA aC dA nD dC uA nU uC kA nK kC d x3 x4 x5 x6 x7 x8 e26 e27 e28) 34 from X2s.out.below kb); have Y3 := Lib.hid (Y2s.out.below kb); have B3 := Lib.hid (B2s.out.trans (kb.mono B2s.out.size)); clear kb i9 z9)
    | (refine store_mid_as rfl 30 _ _ rfl w.heap.size 10 (ctc tx n tg th via a.aA nA a.aC a.dA nD a.dC a.uA nU a.uC a.kA nK a.kC d x3 x4 x5 x6 x7 x8).toArray rfl rfl (X3.out.thereAt 10 16 (show (10 : Nat) + 16 ≤ 29 from by decide)) size28c (by simp [Value.oneCell']) ?_; intro w4 e4; have E4 : Hid (w4 = w3.setCells w.heap.size 10 (ctc tx n tg th via a.aA nA a.aC a.dA nD a.dC a.uA nU a.uC a.kA nK a.kC d x3 x4 x5 x6 x7 x8)) := Lib.hid e4; clear e4; have X4 : Hid (Blk w4 w.heap.size (evc e0 e1 e2 e3 e4 e5 e6 e7 A1 n8 c1 A2 n9 c2 tx n tg th via a.aA nA a.aC a.dA nD a.dC a.uA nU a.uC a.kA nK a.kC d x3 x4 x5 x6 x7 x8 e26 e27 e28) 34) := Lib.hid (by rw [E4.out]; exact Ky.Blk.setMid X3.out 10 (ctc tx n tg th via a.aA nA a.aC a.dA nD a.dC a.uA nU a.uC a.kA nK a.kC d x3 x4 x5 x6 x7 x8) (show (10 : Nat) + 16 ≤ 29 from by decide)); have Y4 : Hid (Blk w4 (w.heap.size + 1) z29 34) := Lib.hid (by rw [E4.out]; exact Y3.out.otherAll w.heap.size 10 (ctc tx n tg th via a.aA nA a.aC a.dA nD a.dC a.uA nU a.uC a.kA nK a.kC d x3 x4 x5 x6 x7 x8) (by omega)); have B4 : Hid (Below w.heap.size w w4) := Lib.hid (by rw [E4.out]; exact below_setAll (Nat.le_refl w.heap.size) (ctc tx n tg th via a.aA nA a.aC a.dA nD a.dC a.uA nU a.uC a.kA nK a.kC d x3 x4 x5 x6 x7 x8) 10 _ B3.out); clear X3 Y3 B3)
    | (refine wpList_load_mid rfl 34 _ rfl w.heap.size 0 rfl (evc e0 e1 e2 e3 e4 e5 e6 e7 A1 n8 c1 A2 n9 c2 tx n tg th via a.aA nA a.aC a.dA nD a.dC a.uA nU a.uC a.kA nK a.kC d x3 x4 x5 x6 x7 x8 e26 e27 e28) _ X4.out.range Try.underlying34 rfl size39 ?_)
    | (refine wpList_store_mid rfl 34 _ _ rfl (w.heap.size + 1) 0 (evc e0 e1 e2 e3 e4 e5 e6 e7 A1 n8 c1 A2 n9 c2 tx n tg th via a.aA nA a.aC a.dA nD a.dC a.uA nU a.uC a.kA nK a.kC d x3 x4 x5 x6 x7 x8 e26 e27 e28).toArray rfl rfl (Blk.there (n := 29) Y4.out (by decide)) size39 (by simp [Value.oneCell']) ?_))
  (try simp only [Exit.inBlock, Exit.then])
  refine bodyPost_ret (results_cell_mid rfl _ _ (w.heap.size + 1) (evc e0 e1 e2 e3 e4 e5 e6 e7 A1 n8 c1 A2 n9 c2 tx n tg th via a.aA nA a.aC a.dA nD a.dC a.uA nU a.uC a.kA nK a.kC d x3 x4 x5 x6 x7 x8 e26 e27 e28) 34 _ rfl (Y4.out.setAll _ rfl) Try.underlying34 rfl size39) rfl ?_
  exact ⟨A1, c1, A2, c2, a, rfl, below_setAll (by omega) _ _ _ B4.out⟩
theorem clone39e (e : Evd) (w : World) (hc : IsCt w e.C e.a) (h8 : Its w e.a8 e.n8 e.c8 e.p8) (h9 : Its w e.a9 e.n9 e.c9 e.p9) (hf : Fe e) : Calls Try.prog 43 #[.agg (cellsE e).toArray] w fun r w' => (∃ e' : Evd, r = .returned (.agg (cellsE e').toArray) ∧ e'.e0 = e.e0 ∧ e'.e3 = e.e3 ∧ e'.e5 = e.e5 ∧ e'.C.n = e.C.n) ∧ Below w.heap.size w w' := by
  refine (clone39 e.e0 e.e1 e.e2 e.e3 e.e4 e.e5 e.e6 e.e7 e.a8 e.n8 e.c8 e.a9 e.n9 e.c9 e.C.tx e.C.n e.C.tg e.C.th e.C.via e.a.aA e.C.nA e.a.aC e.a.dA e.C.nD e.a.dC e.a.uA e.C.lv.nU e.a.uC e.a.kA e.C.lv.nK e.a.kC e.C.lv.d e.C.lv.x3 e.C.lv.x4 e.C.lv.x5 e.C.lv.x6 e.C.lv.x7 e.C.lv.x8 e.e26 e.e27 e.e28 e.C.al e.C.dn e.C.lv.U e.C.lv.K _ _ w h8.rws h9.rws hc hf).mono ?_
  rintro r w1 ⟨A8, d8, A9, d9, a, rfl, hb⟩
  exact ⟨⟨⟨e.e0, e.e1, e.e2, e.e3, e.e4, e.e5, e.e6, e.e7, A8, e.n8, d8, A9, e.n9, d9, e.C, a, e.e26, e.e27, e.e28, e.p8, e.p9⟩, rfl, rfl, rfl, rfl, rfl⟩, hb⟩
end Go.Proofs.Ytbedibiodlgegaa
