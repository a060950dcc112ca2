/- clone.Event, with what stands behind the copy. Condition: short lists. -/
import Derived.Test.YtbedibiodlgegaaYC2
namespace Go.Proofs.Ytbedibiodlgegaa
open Go.RowKit
set_option linter.unusedVariables false
set_option linter.unusedSimpArgs false

/-- The event, its lists elsewhere. -/
def mvE (e : Evd) (A8 : Option Addr) (d8 : Nat) (A9 : Option Addr) (d9 : Nat) (a : Ads) : Evd := ⟨e.e0, e.e1, e.e2, e.e3, e.e4, e.e5, e.e6, e.e7, A8, e.n8, d8, A9, e.n9, d9, e.C, a, e.e26, e.e27, e.e28, e.p8, e.p9⟩
/-- The lists of an event are not in the block g. -/
structure ApE (g : Nat) (x : Evd) : Prop where
  c : Apart g x.C x.a
  p8 : 0 < x.n8 → ∀ b off, x.a8 = some ⟨b, off, none⟩ → b ≠ g
  p9 : 0 < x.n9 → ∀ b off, x.a9 = some ⟨b, off, none⟩ → b ≠ g
def EvK (e : Evd) (w : World) (r : Ending) (w' : World) : Prop :=
  ∃ A8 d8 A9 d9 a, r = .returned (.agg (cellsE (mvE e A8 d8 A9 d9 a)).toArray) ∧ IsCt w' e.C a ∧ Its w' A8 e.n8 d8 e.p8 ∧ Its w' A9 e.n9 d9 e.p9 ∧ Below w.heap.size w w' ∧ ∀ g, g < w.heap.size → ApE g (mvE e A8 d8 A9 d9 a)
/-- Numbers that lie at or beyond B. -/
def ItsN (B : Nat) (w : World) (A : Option Addr) (n c : Nat) (zs : List Int) : Prop := Its w A n c zs ∧ (0 < n → ∀ b off, A = some ⟨b, off, none⟩ → B ≤ b)
theorem ItsN.below {B : Nat} {w w1 : World} {A : Option Addr} {n c : Nat} {zs : List Int} (h : ItsN B w A n c zs) (hb : Below w.heap.size w w1) : ItsN B w1 A n c zs := ⟨h.1.below hb, h.2⟩
theorem ItsN.set {B : Nat} {w : World} {A : Option Addr} {n c : Nat} {zs : List Int} (h : ItsN B w A n c zs) (p : Addr) (v : Value) (hp : p.block < B) : ItsN B (w.setCell p v) A n c zs :=
  ⟨⟨h.1.rws.other p v (fun h0 b off e => by have := h.2 h0 b off e; omega), h.1.len, h.1.cap, h.1.fit⟩, h.2⟩
theorem ItsN.setAll {B : Nat} {w : World} {A : Option Addr} {n c : Nat} {zs : List Int} (h : ItsN B w A n c zs) (g o : Nat) (vs : List Value) (hp : g < B) : ItsN B (w.setCells g o vs) A n c zs :=
  ⟨⟨h.1.rws.otherAll g o vs (fun h0 b off e => by have := h.2 h0 b off e; omega), h.1.len, h.1.cap, h.1.fit⟩, h.2⟩
theorem its_copy {w w' : World} {n c c0 : Nat} {zs : List Int} {A A0 : Option Addr} (h : CopyR w w' 3 1 n (rowI zs) A c) (h0 : Its w A0 n c0 zs) {B : Nat} (hB : B ≤ w.heap.size) : ItsN B w' A n c zs := by
  refine ⟨⟨h.rows h0.rws, h0.len, ?_, h0.fit⟩, fun hn b off e => Nat.le_trans hB (h.new hn b off e)⟩
  rcases h.own.2 with ⟨hv, h1⟩ | ⟨g, cap, cur, hv, _, _, hnc, _⟩
  · omega
  · simp only [Value.slice.injEq, true_and] at hv
    rw [hv.2]; exact hnc
set_option maxRecDepth 100000 in
set_option maxHeartbeats 8000000 in
theorem clone43 (e0 : Int) (e1 e2 : ByteArray) (e3 : Int) (e4 : Bool) (e5 : ByteArray) (e6 e7 : Int) (a8 : Option Addr) (n8 c8 : Nat) (a9 : Option Addr) (n9 c9 : Nat) (tx : ByteArray) (n tg : Int) (th : Bool) (via : ByteArray) (aA : Option Addr) (nA aC : Nat) (dA : Option Addr) (nD dC : Nat) (uA : Option Addr) (nU uC : Nat) (kA : Option Addr) (nK kC : Nat) (d x3 x4 x5 x6 x7 x8 : Int) (e26 : Int) (e27 : ByteArray) (e28 : Int) (al dn : List ByteArray) (U : Nat → ByteArray × Int) (K : Nat → Int × Int) (p8 p9 : List Int) (w : World)
    (h8 : Its w a8 n8 c8 p8) (h9 : Its w a9 n9 c9 p9) (hc : IsCt w ⟨tx, n, tg, th, via, nA, al, nD, dn, ⟨nU, U, nK, K, d, x3, x4, x5, x6, x7, x8⟩⟩ ⟨aA, aC, dA, dC, uA, uC, kA, kC⟩) (hf : Few n8 n9 nA nD nU nK) :
    Calls Try.prog 43 #[.agg (evc e0 e1 e2 e3 e4 e5 e6 e7 a8 n8 c8 a9 n9 c9 tx n tg th via aA nA aC dA nD dC uA nU uC kA nK kC d x3 x4 x5 x6 x7 x8 e26 e27 e28).toArray] w (EvK ⟨e0, e1, e2, e3, e4, e5, e6, e7, a8, n8, c8, a9, n9, c9, ⟨tx, n, tg, th, via, nA, al, nD, dn, ⟨nU, U, nK, K, d, x3, x4, x5, x6, x7, x8⟩⟩, ⟨aA, aC, dA, dC, uA, uC, kA, kC⟩, e26, e27, e28, p8, p9⟩ w) := by
  have B0 := Lib.hid (((Below.refl w.heap.size w).alloc (Nat.le_refl _) (.cells (evc e0 e1 e2 e3 e4 e5 e6 e7 a8 n8 c8 a9 n9 c9 tx n tg th via aA nA aC dA nD dC uA nU uC kA nK kC d x3 x4 x5 x6 x7 x8 e26 e27 e28).toArray 34)).alloc (by simp) (.cells z29.toArray 34))
  have X0 := Lib.hid ((blk_new w (evc e0 e1 e2 e3 e4 e5 e6 e7 a8 n8 c8 a9 n9 c9 tx n tg th via aA nA aC dA nD dC uA nU uC kA nK kC d x3 x4 x5 x6 x7 x8 e26 e27 e28) 34).alloc (.cells z29.toArray 34))
  have Y0 := Lib.hid (show Blk ((w.alloc (.cells (evc e0 e1 e2 e3 e4 e5 e6 e7 a8 n8 c8 a9 n9 c9 tx n tg th via aA nA aC dA nD dC uA nU uC kA nK kC d x3 x4 x5 x6 x7 x8 e26 e27 e28).toArray 34)).alloc (.cells z29.toArray 34)) (w.heap.size + 1) z29 34 by
    have := blk_new (w.alloc (.cells (evc e0 e1 e2 e3 e4 e5 e6 e7 a8 n8 c8 a9 n9 c9 tx n tg th via aA nA aC dA nD dC uA nU uC kA nK kC d x3 x4 x5 x6 x7 x8 e26 e27 e28).toArray 34)) z29 34
    have e : (w.alloc (.cells (evc e0 e1 e2 e3 e4 e5 e6 e7 a8 n8 c8 a9 n9 c9 tx n tg th via aA nA aC dA nD dC uA nU uC kA nK kC d x3 x4 x5 x6 x7 x8 e26 e27 e28).toArray 34)).heap.size = w.heap.size + 1 := by simp
    rw [e] at this
    exact this)
  have H8 := Lib.hid h8
  have H9 := Lib.hid h9
  have HC := Lib.hid hc
  have F8 := Lib.hid (show n8 * 8 ≤ 140737488355328 by have := hf.1; omega)
  have F9 := Lib.hid (show n9 * 8 ≤ 140737488355328 by have := hf.2.1; omega)
  have HS := Lib.hid (show Sm ⟨tx, n, tg, th, via, nA, al, nD, dn, ⟨nU, U, nK, K, d, x3, x4, x5, x6, x7, x8⟩⟩ from ⟨by have := hf.2.2.1; simp; omega, by have := hf.2.2.2.1; simp; omega, by have := hf.2.2.2.2.1; simp; omega, by have := hf.2.2.2.2.2; simp; omega⟩)
  clear h8 h9 hc hf
  show Calls Try.prog 43 #[.agg #[.int .i64 e0, .string e1, .string e2, .int .i64 e3, .bool e4, .string e5, .int .i64 e6, .int .i64 e7, .slice a8 n8 c8, .slice a9 n9 c9, .string tx, .int .i64 n, .int .i64 tg, .bool th, .string via, .slice aA nA aC, .slice dA nD dC, .slice uA nU uC, .slice kA nK kC, .int .i64 d, .int .i64 x3, .int .i64 x4, .int .i64 x5, .int .i64 x6, .int .i64 x7, .int .i64 x8, .int .i64 e26, .string e27, .int .i64 e28]] w _
  generalize hQ : EvK _ _ = Q
  have HQ := Lib.hid hQ
  clear hQ
  go_enter Try.func43, Try.ntmps43
  go_wp2_with (first
    | (go_at_call 47; (with_reducible refine (clone48 a8 n8 c8 (rowI p8) _ (H8.out.below B0.out).rws F8.out).mono ?_); rintro e w1 ⟨A1, c1, rfl, k1⟩; have X1 := Lib.hid (X0.out.below k1.bel); have Y1 := Lib.hid (Y0.out.below k1.bel); have B1 := Lib.hid (B0.out.trans (k1.bel.mono B0.out.size)); have i8 := X1.out.cell (i := 8) rfl; have i9 := X1.out.cell (i := 9) rfl; have z8 := X1.out.free 8; have J1 := Lib.hid ((its_copy k1 (H8.out.below B0.out) (B := w.heap.size + 2) (by simp)).set ⟨w.heap.size, 8, none⟩ (.slice A1 n8 c1) (by simp)); clear k1; have B1s := Lib.hid (B1.out.setCell (p := ⟨w.heap.size, 8, none⟩) (Nat.le_refl _) (.slice A1 n8 c1)))
    | (go_at_call 47; refine (clone48 a9 n9 c9 (rowI p9) _ (H9.out.below B1s.out).rws F9.out).mono ?_; rintro e w2 ⟨A2, c2, rfl, k2⟩; have X2 := Lib.hid ((X1.out.set 8 (.slice A1 n8 c1)).below k2.bel); have Y2 := Lib.hid ((Y1.out.other ⟨w.heap.size, 8, none⟩ (.slice A1 n8 c1) (by simp)).below k2.bel); have B2 := Lib.hid (B1s.out.trans (k2.bel.mono B1s.out.size)); clear i8 i9 z8; have i9 := X2.out.cell (i := 9) rfl; have z9 := X2.out.free 9; have J2 := Lib.hid ((J1.out.below k2.bel).set ⟨w.heap.size, 9, none⟩ (.slice A2 n9 c2) (by simp)); have M2 := Lib.hid ((its_copy k2 (H9.out.below B1s.out) (B := w.heap.size + 2) (by have := B1.out.size; have := X1.out.lt; have := Y1.out.lt; simp; omega)).set ⟨w.heap.size, 9, none⟩ (.slice A2 n9 c2) (by simp)); clear k2; have B2s := Lib.hid (B2.out.setCell (p := ⟨w.heap.size, 9, none⟩) (Nat.le_refl _) (.slice A2 n9 c2)); have X2s := Lib.hid (X2.out.set 9 (.slice A2 n9 c2)); have Y2s := Lib.hid (Y2.out.other ⟨w.heap.size, 9, none⟩ (.slice A2 n9 c2) (by simp)))
    | (refine wpList_load_mid rfl 30 _ rfl w.heap.size 10 rfl (ctc tx n tg th via aA nA aC dA nD dC uA nU uC kA nK kC d x3 x4 x5 x6 x7 x8) _ (X2s.out.mid 10 16) Try.underlying30 rfl size28c ?_)
    | (go_at_call 55; refine (clone22 tx n tg th via aA nA aC dA nD dC uA nU uC kA nK kC d x3 x4 x5 x6 x7 x8 al dn U K _ (HC.out.below B2s.out).al (HC.out.below B2s.out).dn (HC.out.below B2s.out).us (HC.out.below B2s.out).ks HS.out).mono ?_; rintro e w3 ⟨a, rfl, hic, hia, kb⟩; have IC3 := Lib.hid hic; have HIA := Lib.hid (fun g (hg : g < w.heap.size) => hia g (Nat.lt_of_lt_of_le hg B2s.out.size)); have J3 := Lib.hid (J2.out.below kb); have M3 := Lib.hid (M2.out.below kb); have IA3 := Lib.hid (show Apart w.heap.size ⟨tx, n, tg, th, via, nA, al, nD, dn, ⟨nU, U, nK, K, d, x3, x4, x5, x6, x7, x8⟩⟩ a ∧ Apart (w.heap.size + 1) ⟨tx, n, tg, th, via, nA, al, nD, dn, ⟨nU, U, nK, K, d, x3, x4, x5, x6, x7, x8⟩⟩ a from ⟨hia _ X2s.out.lt, hia _ Y2s.out.lt⟩); clear hic hia; have X3 := Lib.hid (show Blk w3 w.heap.size (evc e0 e1 e2 e3 e4 e5 e6 e7 A1 n8 c1 A2 n9 c2 tx n tg th via aA nA aC dA nD dC uA nU uC kA nK kC d x3 x4 x5 x6 x7 x8 e26 e27 e28) 34 from X2s.out.below kb); have Y3 := Lib.hid (Y2s.out.below kb); have B3 := Lib.hid (B2s.out.trans (kb.mono B2s.out.size)); clear kb i9 z9)
    | (refine store_mid_as rfl 30 _ _ rfl w.heap.size 10 (ctc tx n tg th via a.aA nA a.aC a.dA nD a.dC a.uA nU a.uC a.kA nK a.kC d x3 x4 x5 x6 x7 x8).toArray rfl rfl (X3.out.thereAt 10 16 (show (10 : Nat) + 16 ≤ 29 from by decide)) size28c (by simp [Value.oneCell']) ?_; intro w4 e4; have E4 : Hid (w4 = w3.setCells w.heap.size 10 (ctc tx n tg th via a.aA nA a.aC a.dA nD a.dC a.uA nU a.uC a.kA nK a.kC d x3 x4 x5 x6 x7 x8)) := Lib.hid e4; clear e4; have X4 : Hid (Blk w4 w.heap.size (evc e0 e1 e2 e3 e4 e5 e6 e7 A1 n8 c1 A2 n9 c2 tx n tg th via a.aA nA a.aC a.dA nD a.dC a.uA nU a.uC a.kA nK a.kC d x3 x4 x5 x6 x7 x8 e26 e27 e28) 34) := Lib.hid (by rw [E4.out]; exact Ky.Blk.setMid X3.out 10 (ctc tx n tg th via a.aA nA a.aC a.dA nD a.dC a.uA nU a.uC a.kA nK a.kC d x3 x4 x5 x6 x7 x8) (show (10 : Nat) + 16 ≤ 29 from by decide)); have Y4 : Hid (Blk w4 (w.heap.size + 1) z29 34) := Lib.hid (by rw [E4.out]; exact Y3.out.otherAll w.heap.size 10 (ctc tx n tg th via a.aA nA a.aC a.dA nD a.dC a.uA nU a.uC a.kA nK a.kC d x3 x4 x5 x6 x7 x8) (by omega)); have B4 : Hid (Below w.heap.size w w4) := Lib.hid (by rw [E4.out]; exact below_setAll (Nat.le_refl w.heap.size) (ctc tx n tg th via a.aA nA a.aC a.dA nD a.dC a.uA nU a.uC a.kA nK a.kC d x3 x4 x5 x6 x7 x8) 10 _ B3.out); have IC4 : Hid (IsCt w4 ⟨tx, n, tg, th, via, nA, al, nD, dn, ⟨nU, U, nK, K, d, x3, x4, x5, x6, x7, x8⟩⟩ a) := Lib.hid (by rw [E4.out]; exact IC3.out.otherAll _ _ _ IA3.out.1); have J4 : Hid (ItsN (w.heap.size + 2) w4 A1 n8 c1 p8) := Lib.hid (by rw [E4.out]; exact J3.out.setAll w.heap.size 10 _ (by omega)); have M4 : Hid (ItsN (w.heap.size + 2) w4 A2 n9 c2 p9) := Lib.hid (by rw [E4.out]; exact M3.out.setAll w.heap.size 10 _ (by omega)); clear X3 Y3 B3 IC3 J3 M3)
    | (refine wpList_load_mid rfl 34 _ rfl w.heap.size 0 rfl (evc e0 e1 e2 e3 e4 e5 e6 e7 A1 n8 c1 A2 n9 c2 tx n tg th via a.aA nA a.aC a.dA nD a.dC a.uA nU a.uC a.kA nK a.kC d x3 x4 x5 x6 x7 x8 e26 e27 e28) _ X4.out.range Try.underlying34 rfl size39 ?_)
    | (refine wpList_store_mid rfl 34 _ _ rfl (w.heap.size + 1) 0 (evc e0 e1 e2 e3 e4 e5 e6 e7 A1 n8 c1 A2 n9 c2 tx n tg th via a.aA nA a.aC a.dA nD a.dC a.uA nU a.uC a.kA nK a.kC d x3 x4 x5 x6 x7 x8 e26 e27 e28).toArray rfl rfl (Blk.there (n := 29) Y4.out (by decide)) size39 (by simp [Value.oneCell']) ?_))
  (try simp only [Exit.inBlock, Exit.then])
  refine bodyPost_ret (results_cell_mid rfl _ _ (w.heap.size + 1) (evc e0 e1 e2 e3 e4 e5 e6 e7 A1 n8 c1 A2 n9 c2 tx n tg th via a.aA nA a.aC a.dA nD a.dC a.uA nU a.uC a.kA nK a.kC d x3 x4 x5 x6 x7 x8 e26 e27 e28) 34 _ rfl (Y4.out.setAll _ rfl) Try.underlying34 rfl size39) rfl ?_
  rw [← HQ.out]
  exact ⟨A1, c1, A2, c2, a, rfl, IC4.out.otherAll _ _ _ IA3.out.2, (J4.out.setAll (w.heap.size + 1) 0 _ (by omega)).1, (M4.out.setAll (w.heap.size + 1) 0 _ (by omega)).1, below_setAll (by omega) _ _ _ B4.out, fun g hg => ⟨HIA.out g hg, fun h0 b off e => by have := (J4.out.setAll (w.heap.size + 1) 0 [] (by omega)).2 h0 b off e; omega, fun h0 b off e => by have := (M4.out.setAll (w.heap.size + 1) 0 [] (by omega)).2 h0 b off e; omega⟩⟩
theorem clone43e (e : Evd) (w : World) (hc : IsCt w e.C e.a) (h8 : Its w e.a8 e.n8 e.c8 e.p8) (h9 : Its w e.a9 e.n9 e.c9 e.p9) (hf : Fe e) : Calls Try.prog 43 #[.agg (cellsE e).toArray] w (EvK e w) :=
  clone43 e.e0 e.e1 e.e2 e.e3 e.e4 e.e5 e.e6 e.e7 e.a8 e.n8 e.c8 e.a9 e.n9 e.c9 e.C.tx e.C.n e.C.tg e.C.th e.C.via e.a.aA e.C.nA e.a.aC e.a.dA e.C.nD e.a.dC e.a.uA e.C.lv.nU e.a.uC e.a.kA e.C.lv.nK e.a.kC e.C.lv.d e.C.lv.x3 e.C.lv.x4 e.C.lv.x5 e.C.lv.x6 e.C.lv.x7 e.C.lv.x8 e.e26 e.e27 e.e28 e.C.al e.C.dn e.C.lv.U e.C.lv.K _ _ w h8 h9 hc hf
end Go.Proofs.Ytbedibiodlgegaa
