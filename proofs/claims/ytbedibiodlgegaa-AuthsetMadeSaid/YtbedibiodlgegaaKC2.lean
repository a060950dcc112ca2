/- clone.Content. -/
import Derived.Test.YtbedibiodlgegaaKC1
namespace Go.Proofs.Ytbedibiodlgegaa
open Go.RowKit
set_option linter.unusedVariables false

theorem Blk.thereAt {w : World} {t : Nat} {cs : List Value} {T : TypeId} (h : Blk w t cs T) (o n : Nat) (hn : o + n ≤ cs.length) : w.there t o n := fun j hj =>
  ⟨by rw [h.cell (List.getElem?_eq_getElem (by omega))]; rfl, h.free _⟩
theorem Blk.setEnd {w : World} {t : Nat} {pre post vs : List Value} {T : TypeId} (h : Blk w t (pre ++ post) T) (e : vs.length = post.length) : Blk (w.setCells t pre.length vs) t (pre ++ vs) T := set_all vs pre post w h e
theorem X3e {w : World} {t : Nat} {a b c d e f g : Value} {p vs : List Value} {T : TypeId} (h : Blk w t (a :: b :: c :: d :: e :: f :: g :: p) T) (hl : vs.length = p.length) : Blk (w.setCells t 7 vs) t (a :: b :: c :: d :: e :: f :: g :: vs) T :=
  Blk.setEnd (pre := [a, b, c, d, e, f, g]) (post := p) h hl
/-- Few enough to be copied. -/
structure Sm (C : Ct) : Prop where
  a : C.nA ≤ 100000
  d : C.nD ≤ 100000
  u : C.lv.nU ≤ 100000
  k : C.lv.nK ≤ 100000
/-- Its lists are not in the block g. -/
structure Apart (g : Nat) (C : Ct) (a : Ads) : Prop where
  al : 0 < C.nA → ∀ b off, a.aA = some ⟨b, off, none⟩ → b ≠ g
  dn : 0 < C.nD → ∀ b off, a.dA = some ⟨b, off, none⟩ → b ≠ g
  us : 0 < C.lv.nU → ∀ b off, a.uA = some ⟨b, off, none⟩ → b ≠ g
  ks : 0 < C.lv.nK → ∀ b off, a.kA = some ⟨b, off, none⟩ → b ≠ g
theorem IsCt.otherAll {w : World} {C : Ct} {a : Ads} (h : IsCt w C a) (g o : Nat) (vs : List Value) (hp : Apart g C a) : IsCt (w.setCells g o vs) C a :=
  ⟨⟨h.al.rws.otherAll g o vs hp.al, h.al.len, h.al.cap, h.al.fit⟩, ⟨h.dn.rws.otherAll g o vs hp.dn, h.dn.len, h.dn.cap, h.dn.fit⟩, h.us.otherAll g o vs hp.us, h.ks.otherAll g o vs hp.ks⟩
theorem IsCt.apart {w : World} {C : Ct} {a : Ads} (h : IsCt w C a) {g : Nat} (hg : w.heap.size ≤ g) : Apart g C a := by
  refine ⟨fun h0 => ?_, fun h0 => ?_, fun h0 => ?_, fun h0 => ?_⟩
  · exact h.al.rws.old hg h0
  · exact h.dn.rws.old hg h0
  · exact h.us.old hg h0
  · exact h.ks.old hg h0
def CtP (w : World) (C : Ct) (e : Ending) (w' : World) : Prop := ∃ a, e = .returned (.agg (cells C a).toArray) ∧ IsCt w' C a ∧ (∀ g, g < w.heap.size → Apart g C a) ∧ Below w.heap.size w w'
theorem Txs.other {w : World} {A : Option Addr} {n c : Nat} {zs : List ByteArray} (h : Txs w A n c zs) (a : Addr) (v : Value) (hne : 0 < n → ∀ b off, A = some ⟨b, off, none⟩ → b ≠ a.block) : Txs (w.setCell a v) A n c zs := ⟨h.rws.other a v hne, h.len, h.cap, h.fit⟩
theorem Txs.otherAll {w : World} {A : Option Addr} {n c : Nat} {zs : List ByteArray} (h : Txs w A n c zs) (g o : Nat) (vs : List Value) (hne : 0 < n → ∀ b off, A = some ⟨b, off, none⟩ → b ≠ g) : Txs (w.setCells g o vs) A n c zs := ⟨h.rws.otherAll g o vs hne, h.len, h.cap, h.fit⟩
theorem store_mid_as {P : Program} {ops : Array Oper} {rest : List Oper} {op : Oper} {a : Act} {w : World} {Q : Exit → Act → World → Prop} (hgd : op.guard = none) (ty : TypeId) (x y : Operand) (ho : op.op = .store ty x y)
    (b o : Nat) (cells : Array Value) (hx : a.eval x = .pointer (some ⟨b, o, none⟩)) (hy : a.eval y = .agg cells)
    (ht : w.there b o cells.size) (hi : (P.info? ty).map (·.size) = some cells.size) (h1 : cells.all (·.oneCell') = true)
    (h : ∀ w4, w4 = w.setCells b o cells.toList → wpList P ops Q rest (a.put op.dst undef) w4) : wpList P ops Q (op :: rest) a w :=
  wpList_store_mid hgd ty x y ho b o cells hx hy ht hi h1 (h _ rfl)
abbrev c16 : List Value := [.string ⟨#[]⟩, .int .i64 0, .int .i64 0, .bool false, .string ⟨#[]⟩, .slice none 0 0, .slice none 0 0, .slice none 0 0, .slice none 0 0, .int .i64 0, .int .i64 0, .int .i64 0, .int .i64 0, .int .i64 0, .int .i64 0, .int .i64 0]
set_option maxHeartbeats 4000000 in
theorem clone22 (tx : ByteArray) (n tg : Int) (th : Bool) (via : ByteArray) (aA : Option Addr) (nA aC : Nat) (dA : Option Addr) (nD dC : Nat) (uA : Option Addr) (nU uC : Nat) (kA : Option Addr) (nK kC : Nat) (d x3 x4 x5 x6 x7 x8 : Int) (al dn : List ByteArray) (U : Nat → ByteArray × Int) (K : Nat → Int × Int) (w : World)
    (hA : Txs w aA nA aC al) (hD : Txs w dA nD dC dn) (hU : Rws w uA nU uC 2 (rowU U)) (hK : Rws w kA nK kC 2 (rowK K)) (hs : Sm ⟨tx, n, tg, th, via, nA, al, nD, dn, ⟨nU, U, nK, K, d, x3, x4, x5, x6, x7, x8⟩⟩) :
    Calls Try.prog 55 #[.agg (ctc tx n tg th via aA nA aC dA nD dC uA nU uC kA nK kC d x3 x4 x5 x6 x7 x8).toArray] w (CtP w ⟨tx, n, tg, th, via, nA, al, nD, dn, ⟨nU, U, nK, K, d, x3, x4, x5, x6, x7, x8⟩⟩) := by
  obtain ⟨s1, s2, s3, s4⟩ := hs
  have b1 : nA * 16 ≤ 140737488355328 := by simp at s1; omega
  have b2 : nD * 16 ≤ 140737488355328 := by simp at s2; omega
  have b3 : nU * 24 ≤ 140737488355328 := by simp at s3; omega
  have b4 : nK * 16 ≤ 140737488355328 := by simp at s4; omega
  have B0 := Lib.hid (((Below.refl w.heap.size w).alloc (Nat.le_refl _) (.cells (ctc tx n tg th via aA nA aC dA nD dC uA nU uC kA nK kC d x3 x4 x5 x6 x7 x8).toArray 30)).alloc (by simp) (.cells c16.toArray 30))
  have X0 := Lib.hid ((blk_new w (ctc tx n tg th via aA nA aC dA nD dC uA nU uC kA nK kC d x3 x4 x5 x6 x7 x8) 30).alloc (.cells c16.toArray 30))
  have Y0 := Lib.hid (show Blk ((w.alloc (.cells (ctc tx n tg th via aA nA aC dA nD dC uA nU uC kA nK kC d x3 x4 x5 x6 x7 x8).toArray 30)).alloc (.cells c16.toArray 30)) (w.heap.size + 1) c16 30 by
    have := blk_new (w.alloc (.cells (ctc tx n tg th via aA nA aC dA nD dC uA nU uC kA nK kC d x3 x4 x5 x6 x7 x8).toArray 30)) c16 30
    have e : (w.alloc (.cells (ctc tx n tg th via aA nA aC dA nD dC uA nU uC kA nK kC d x3 x4 x5 x6 x7 x8).toArray 30)).heap.size = w.heap.size + 1 := by simp
    rw [e] at this
    exact this)
  have HA := Lib.hid hA
  have HD := Lib.hid hD
  have HU := Lib.hid hU
  have HK := Lib.hid hK
  have HS := Lib.hid (And.intro b1 (And.intro b2 (And.intro b3 b4)))
  clear hA hD hU hK s1 s2 s3 s4 b1 b2 b3 b4
  show Calls Try.prog 55 #[.agg #[.string tx, .int .i64 n, .int .i64 tg, .bool th, .string via, .slice aA nA aC, .slice dA nD dC, .slice uA nU uC, .slice kA nK kC, .int .i64 d, .int .i64 x3, .int .i64 x4, .int .i64 x5, .int .i64 x6, .int .i64 x7, .int .i64 x8]] w _
  go_enter Try.func55, Try.ntmps55
  go_wp2_with (first
    | (go_at_call 64; (with_reducible refine (clone27 aA nA aC (rowS al) _ (HA.out.below B0.out).rws HS.out.1).mono ?_); rintro e w1 ⟨A1, c1, rfl, k1⟩; have K1 := Lib.hid k1; have X1 := Lib.hid (X0.out.below k1.bel); have Y1 := Lib.hid (Y0.out.below k1.bel); have B1 := Lib.hid (B0.out.trans (k1.bel.mono B0.out.size)); have i5 := X1.out.cell (i := 5) rfl; have i6 := X1.out.cell (i := 6) rfl; have z5 := X1.out.free 5; clear k1; have B1s := Lib.hid (B1.out.setCell (p := ⟨w.heap.size, 5, none⟩) (Nat.le_refl _) (.slice A1 nA c1)))
    | (go_at_call 64; refine (clone27 dA nD dC (rowS dn) _ (HD.out.below B1s.out).rws HS.out.2.1).mono ?_; rintro e w2 ⟨A2, c2, rfl, k2⟩; have K2 := Lib.hid k2; have X2 := Lib.hid ((X1.out.set 5 (.slice A1 nA c1)).below k2.bel); have Y2 := Lib.hid ((Y1.out.other ⟨w.heap.size, 5, none⟩ (.slice A1 nA c1) (by simp)).below k2.bel); have B2 := Lib.hid (B1s.out.trans (k2.bel.mono B1s.out.size)); clear i5 i6 z5; have i6 := X2.out.cell (i := 6) rfl; have z6 := X2.out.free 6; clear k2; have B2s := Lib.hid (B2.out.setCell (p := ⟨w.heap.size, 6, none⟩) (Nat.le_refl _) (.slice A2 nD c2)); have X2s := Lib.hid (X2.out.set 6 (.slice A2 nD c2)); have Y2s := Lib.hid (Y2.out.other ⟨w.heap.size, 6, none⟩ (.slice A2 nD c2) (by simp)))
    | (refine wpList_load_mid rfl 28 _ rfl w.heap.size 7 rfl (lvc uA nU uC kA nK kC d x3 x4 x5 x6 x7 x8) _ (X2s.out.mid 7 9) Try.underlying28 rfl size28 ?_)
    | (go_at_call 65; refine (clone26 uA nU uC kA nK kC U K d x3 x4 x5 x6 x7 x8 _ (HU.out.below B2s.out) (HK.out.below B2s.out) HS.out.2.2.1 HS.out.2.2.2).mono ?_; rintro e w3 ⟨A3, c3, A4, c4, rfl, k3, k4, kb, n3, n4⟩; have K3 := Lib.hid k3; have K4 := Lib.hid k4; have KB := Lib.hid kb; have N3 := Lib.hid n3; have N4 := Lib.hid n4; have X3 := Lib.hid (show Blk w3 w.heap.size (ctc tx n tg th via A1 nA c1 A2 nD c2 uA nU uC kA nK kC d x3 x4 x5 x6 x7 x8) 30 from X2s.out.below kb); have Y3 := Lib.hid (Y2s.out.below kb); have B3 := Lib.hid (B2s.out.trans (kb.mono B2s.out.size)); clear k3 k4 kb n3 n4 i6 z6)
    | (refine store_mid_as rfl 28 _ _ rfl w.heap.size 7 (lvc A3 nU c3 A4 nK c4 d x3 x4 x5 x6 x7 x8).toArray rfl rfl (X3.out.thereAt 7 9 (show (7 : Nat) + 9 ≤ 16 from by decide)) size28 (lvc_one _ _ _ _ _ _ _ _ _ _ _ _ _) ?_; intro w4 e4; have E4 : Hid (w4 = w3.setCells w.heap.size 7 (lvc A3 nU c3 A4 nK c4 d x3 x4 x5 x6 x7 x8)) := Lib.hid e4; clear e4; have X4 : Hid (Blk w4 w.heap.size (ctc tx n tg th via A1 nA c1 A2 nD c2 A3 nU c3 A4 nK c4 d x3 x4 x5 x6 x7 x8) 30) := Lib.hid (by rw [E4.out]; exact X3e (vs := lvc A3 nU c3 A4 nK c4 d x3 x4 x5 x6 x7 x8) X3.out rfl); have Y4 : Hid (Blk w4 (w.heap.size + 1) c16 30) := Lib.hid (by rw [E4.out]; exact Y3.out.otherAll w.heap.size 7 (lvc A3 nU c3 A4 nK c4 d x3 x4 x5 x6 x7 x8) (by omega)); have B4 : Hid (Below w.heap.size w w4) := Lib.hid (by rw [E4.out]; exact below_setAll (Nat.le_refl w.heap.size) (lvc A3 nU c3 A4 nK c4 d x3 x4 x5 x6 x7 x8) 7 _ B3.out); clear X3 Y3 B3)
    | (refine wpList_load_mid rfl 30 _ rfl w.heap.size 0 rfl (ctc tx n tg th via A1 nA c1 A2 nD c2 A3 nU c3 A4 nK c4 d x3 x4 x5 x6 x7 x8) _ X4.out.range Try.underlying30 rfl size28c ?_)
    | (refine wpList_store_mid rfl 30 _ _ rfl (w.heap.size + 1) 0 (ctc tx n tg th via A1 nA c1 A2 nD c2 A3 nU c3 A4 nK c4 d x3 x4 x5 x6 x7 x8).toArray rfl rfl (Blk.there (n := 16) Y4.out (by decide)) size28c (by simp [Value.oneCell']) ?_))
  (try simp only [Exit.inBlock, Exit.then])
  refine bodyPost_ret (results_cell_mid rfl _ _ (w.heap.size + 1) (ctc tx n tg th via A1 nA c1 A2 nD c2 A3 nU c3 A4 nK c4 d x3 x4 x5 x6 x7 x8) 30 _ rfl (Y4.out.setAll _ rfl) Try.underlying30 rfl size28c) rfl ?_
  have hs0 : w.heap.size + 1 + 1 ≤ w1.heap.size := by have := K1.out.bel.size; simpa using this
  have hs1 : w1.heap.size ≤ w2.heap.size := by have := K2.out.bel.size; simpa using this
  have hs2 : w2.heap.size ≤ w3.heap.size := by have := KB.out.size; simpa using this
  have q1 : 0 < nA → ∀ b off, A1 = some ⟨b, off, none⟩ → w.heap.size + 2 ≤ b := by intro h0 b off e; have := K1.out.new h0 b off e; simpa using this
  have q2 : 0 < nD → ∀ b off, A2 = some ⟨b, off, none⟩ → w.heap.size + 2 ≤ b := by intro h0 b off e; have := K2.out.new h0 b off e; simp at this; omega
  have q3 : 0 < nU → ∀ b off, A3 = some ⟨b, off, none⟩ → w.heap.size + 2 ≤ b := by intro h0 b off e; have := N3.out h0 b off e; simp at this; omega
  have q4 : 0 < nK → ∀ b off, A4 = some ⟨b, off, none⟩ → w.heap.size + 2 ≤ b := by intro h0 b off e; have := N4.out h0 b off e; simp at this; omega
  have T1 : Txs w1 A1 nA c1 al := K1.out.txs HA.out
  have T1s : Txs (w1.setCell ⟨w.heap.size, 5, none⟩ (.slice A1 nA c1)) A1 nA c1 al := T1.other _ _ (fun h0 b off e => by have := q1 h0 b off e; simp; omega)
  have T2 : Txs w2 A1 nA c1 al := T1s.below K2.out.bel
  have S2 : Txs w2 A2 nD c2 dn := K2.out.txs HD.out
  have T2s : Txs (w2.setCell ⟨w.heap.size, 6, none⟩ (.slice A2 nD c2)) A1 nA c1 al := T2.other _ _ (fun h0 b off e => by have := q1 h0 b off e; simp; omega)
  have S2s : Txs (w2.setCell ⟨w.heap.size, 6, none⟩ (.slice A2 nD c2)) A2 nD c2 dn := S2.other _ _ (fun h0 b off e => by have := q2 h0 b off e; simp; omega)
  have T3 := T2s.below KB.out
  have S3 := S2s.below KB.out
  have T4 : Txs w4 A1 nA c1 al := by rw [E4.out]; exact T3.otherAll _ _ _ (fun h0 b off e => by have := q1 h0 b off e; omega)
  have S4 : Txs w4 A2 nD c2 dn := by rw [E4.out]; exact S3.otherAll _ _ _ (fun h0 b off e => by have := q2 h0 b off e; omega)
  have U4 : Rws w4 A3 nU c3 2 (rowU U) := by rw [E4.out]; exact K3.out.otherAll _ _ _ (fun h0 b off e => by have := q3 h0 b off e; omega)
  have V4 : Rws w4 A4 nK c4 2 (rowK K) := by rw [E4.out]; exact K4.out.otherAll _ _ _ (fun h0 b off e => by have := q4 h0 b off e; omega)
  refine ⟨⟨A1, c1, A2, c2, A3, c3, A4, c4⟩, rfl, ⟨?_, ?_, ?_, ?_⟩, fun g hg => ⟨fun h0 b off e => by have := q1 h0 b off e; omega, fun h0 b off e => by have := q2 h0 b off e; omega, fun h0 b off e => by have := q3 h0 b off e; omega, fun h0 b off e => by have := q4 h0 b off e; omega⟩, below_setAll (by omega) _ _ _ B4.out⟩
  · exact T4.otherAll _ _ _ (fun h0 b off e => by have := q1 h0 b off e; omega)
  · exact S4.otherAll _ _ _ (fun h0 b off e => by have := q2 h0 b off e; omega)
  · exact U4.otherAll _ _ _ (fun h0 b off e => by have := q3 h0 b off e; omega)
  · exact V4.otherAll _ _ _ (fun h0 b off e => by have := q4 h0 b off e; omega)
end Go.Proofs.Ytbedibiodlgegaa
