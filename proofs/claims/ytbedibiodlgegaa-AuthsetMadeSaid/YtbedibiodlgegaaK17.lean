/- R07.Same of events, R07.SameAll: true at the same data. Bound: a million parents. -/
import Derived.Test.YtbedibiodlgegaaK16
import Derived.Deep.RegionHeld3
namespace Go.Proofs.Ytbedibiodlgegaa
open Go Go.RowKit
set_option linter.unusedVariables false
set_option linter.unusedSimpArgs false

theorem its_ints {w : World} {A : Option Addr} {n c : Nat} {zs : List Int} (h : Its w A n c zs) (hn : n ≤ 1000000) : Q.Ints w A n c zs := by
  refine ⟨h.len, h.cap, hn, h.rws.nil, h.rws.at_.imp id fun ⟨b, off, e, hlt, hc⟩ => ⟨b, off, e, hlt, fun i hi => ?_⟩⟩
  have := hc i hi 0 _ rfl
  rwa [Nat.mul_one, Nat.add_zero] at this
theorem same15_refl (A1 A2 : Option Addr) (n c1 c2 : Nat) (zs : List Int) (w : World) (h1 : Its w A1 n c1 zs) (h2 : Its w A2 n c2 zs) (hn : n ≤ 1000000) : Calls Try.prog 15 #[.slice A1 n c1, .slice A2 n c2] w fun e w' => e = .returned (.bool true) ∧ Below w.heap.size w w' :=
  (Q.same_any A1 n c1 zs A2 n c2 zs w (its_ints h1 hn) (its_ints h2 hn)).mono fun e w' h => ⟨by rw [h.1, decide_eq_true rfl], h.2⟩
theorem mv_of_dat {e f : Evd} (h : dat e = dat f) : f = mvE e f.a8 f.c8 f.a9 f.c9 f.a := by
  cases e; cases f
  simp only [dat, mvE, Evd.mk.injEq, true_and] at h
  obtain ⟨rfl, rfl, rfl, rfl, rfl, rfl, rfl, rfl, rfl, rfl, rfl, rfl, rfl, rfl, rfl, rfl⟩ := h
  rfl
set_option maxRecDepth 100000 in
set_option maxHeartbeats 8000000 in
theorem same42 (e : Evd) (A8 : Option Addr) (d8 : Nat) (A9 : Option Addr) (d9 : Nat) (a : Ads) (w : World) (h1 : Beh w e) (h2c : IsCt w e.C a) (h28 : Its w A8 e.n8 d8 e.p8) (h29 : Its w A9 e.n9 d9 e.p9) (hn8 : e.n8 ≤ 1000000) (hn9 : e.n9 ≤ 1000000) : Calls Try.prog 42 #[.agg (cellsE e).toArray, .agg (cellsE (mvE e A8 d8 A9 d9 a)).toArray] w fun r w' => r = .returned (.bool true) ∧ Below w.heap.size w w' := by
  show Calls Try.prog 42 #[.agg #[.int .i64 e.e0, .string e.e1, .string e.e2, .int .i64 e.e3, .bool e.e4, .string e.e5, .int .i64 e.e6, .int .i64 e.e7, .slice e.a8 e.n8 e.c8, .slice e.a9 e.n9 e.c9, .string e.C.tx, .int .i64 e.C.n, .int .i64 e.C.tg, .bool e.C.th, .string e.C.via, .slice e.a.aA e.C.nA e.a.aC, .slice e.a.dA e.C.nD e.a.dC, .slice e.a.uA e.C.lv.nU e.a.uC, .slice e.a.kA e.C.lv.nK e.a.kC, .int .i64 e.C.lv.d, .int .i64 e.C.lv.x3, .int .i64 e.C.lv.x4, .int .i64 e.C.lv.x5, .int .i64 e.C.lv.x6, .int .i64 e.C.lv.x7, .int .i64 e.C.lv.x8, .int .i64 e.e26, .string e.e27, .int .i64 e.e28], .agg #[.int .i64 e.e0, .string e.e1, .string e.e2, .int .i64 e.e3, .bool e.e4, .string e.e5, .int .i64 e.e6, .int .i64 e.e7, .slice A8 e.n8 d8, .slice A9 e.n9 d9, .string e.C.tx, .int .i64 e.C.n, .int .i64 e.C.tg, .bool e.C.th, .string e.C.via, .slice a.aA e.C.nA a.aC, .slice a.dA e.C.nD a.dC, .slice a.uA e.C.lv.nU a.uC, .slice a.kA e.C.lv.nK a.kC, .int .i64 e.C.lv.d, .int .i64 e.C.lv.x3, .int .i64 e.C.lv.x4, .int .i64 e.C.lv.x5, .int .i64 e.C.lv.x6, .int .i64 e.C.lv.x7, .int .i64 e.C.lv.x8, .int .i64 e.e26, .string e.e27, .int .i64 e.e28]] w _
  have B0 := Lib.hid (((Below.refl w.heap.size w).alloc (Nat.le_refl _) (.cells #[.int .i64 e.e0, .string e.e1, .string e.e2, .int .i64 e.e3, .bool e.e4, .string e.e5, .int .i64 e.e6, .int .i64 e.e7, .slice e.a8 e.n8 e.c8, .slice e.a9 e.n9 e.c9, .string e.C.tx, .int .i64 e.C.n, .int .i64 e.C.tg, .bool e.C.th, .string e.C.via, .slice e.a.aA e.C.nA e.a.aC, .slice e.a.dA e.C.nD e.a.dC, .slice e.a.uA e.C.lv.nU e.a.uC, .slice e.a.kA e.C.lv.nK e.a.kC, .int .i64 e.C.lv.d, .int .i64 e.C.lv.x3, .int .i64 e.C.lv.x4, .int .i64 e.C.lv.x5, .int .i64 e.C.lv.x6, .int .i64 e.C.lv.x7, .int .i64 e.C.lv.x8, .int .i64 e.e26, .string e.e27, .int .i64 e.e28] 34)).alloc (by simp) (.cells #[.int .i64 e.e0, .string e.e1, .string e.e2, .int .i64 e.e3, .bool e.e4, .string e.e5, .int .i64 e.e6, .int .i64 e.e7, .slice A8 e.n8 d8, .slice A9 e.n9 d9, .string e.C.tx, .int .i64 e.C.n, .int .i64 e.C.tg, .bool e.C.th, .string e.C.via, .slice a.aA e.C.nA a.aC, .slice a.dA e.C.nD a.dC, .slice a.uA e.C.lv.nU a.uC, .slice a.kA e.C.lv.nK a.kC, .int .i64 e.C.lv.d, .int .i64 e.C.lv.x3, .int .i64 e.C.lv.x4, .int .i64 e.C.lv.x5, .int .i64 e.C.lv.x6, .int .i64 e.C.lv.x7, .int .i64 e.C.lv.x8, .int .i64 e.e26, .string e.e27, .int .i64 e.e28] 34))
  have X1 : Hid (Blk ((w.alloc (.cells #[.int .i64 e.e0, .string e.e1, .string e.e2, .int .i64 e.e3, .bool e.e4, .string e.e5, .int .i64 e.e6, .int .i64 e.e7, .slice e.a8 e.n8 e.c8, .slice e.a9 e.n9 e.c9, .string e.C.tx, .int .i64 e.C.n, .int .i64 e.C.tg, .bool e.C.th, .string e.C.via, .slice e.a.aA e.C.nA e.a.aC, .slice e.a.dA e.C.nD e.a.dC, .slice e.a.uA e.C.lv.nU e.a.uC, .slice e.a.kA e.C.lv.nK e.a.kC, .int .i64 e.C.lv.d, .int .i64 e.C.lv.x3, .int .i64 e.C.lv.x4, .int .i64 e.C.lv.x5, .int .i64 e.C.lv.x6, .int .i64 e.C.lv.x7, .int .i64 e.C.lv.x8, .int .i64 e.e26, .string e.e27, .int .i64 e.e28] 34)).alloc (.cells #[.int .i64 e.e0, .string e.e1, .string e.e2, .int .i64 e.e3, .bool e.e4, .string e.e5, .int .i64 e.e6, .int .i64 e.e7, .slice A8 e.n8 d8, .slice A9 e.n9 d9, .string e.C.tx, .int .i64 e.C.n, .int .i64 e.C.tg, .bool e.C.th, .string e.C.via, .slice a.aA e.C.nA a.aC, .slice a.dA e.C.nD a.dC, .slice a.uA e.C.lv.nU a.uC, .slice a.kA e.C.lv.nK a.kC, .int .i64 e.C.lv.d, .int .i64 e.C.lv.x3, .int .i64 e.C.lv.x4, .int .i64 e.C.lv.x5, .int .i64 e.C.lv.x6, .int .i64 e.C.lv.x7, .int .i64 e.C.lv.x8, .int .i64 e.e26, .string e.e27, .int .i64 e.e28] 34)) w.heap.size [.int .i64 e.e0, .string e.e1, .string e.e2, .int .i64 e.e3, .bool e.e4, .string e.e5, .int .i64 e.e6, .int .i64 e.e7, .slice e.a8 e.n8 e.c8, .slice e.a9 e.n9 e.c9, .string e.C.tx, .int .i64 e.C.n, .int .i64 e.C.tg, .bool e.C.th, .string e.C.via, .slice e.a.aA e.C.nA e.a.aC, .slice e.a.dA e.C.nD e.a.dC, .slice e.a.uA e.C.lv.nU e.a.uC, .slice e.a.kA e.C.lv.nK e.a.kC, .int .i64 e.C.lv.d, .int .i64 e.C.lv.x3, .int .i64 e.C.lv.x4, .int .i64 e.C.lv.x5, .int .i64 e.C.lv.x6, .int .i64 e.C.lv.x7, .int .i64 e.C.lv.x8, .int .i64 e.e26, .string e.e27, .int .i64 e.e28] 34) := Lib.hid ((blk_new w [.int .i64 e.e0, .string e.e1, .string e.e2, .int .i64 e.e3, .bool e.e4, .string e.e5, .int .i64 e.e6, .int .i64 e.e7, .slice e.a8 e.n8 e.c8, .slice e.a9 e.n9 e.c9, .string e.C.tx, .int .i64 e.C.n, .int .i64 e.C.tg, .bool e.C.th, .string e.C.via, .slice e.a.aA e.C.nA e.a.aC, .slice e.a.dA e.C.nD e.a.dC, .slice e.a.uA e.C.lv.nU e.a.uC, .slice e.a.kA e.C.lv.nK e.a.kC, .int .i64 e.C.lv.d, .int .i64 e.C.lv.x3, .int .i64 e.C.lv.x4, .int .i64 e.C.lv.x5, .int .i64 e.C.lv.x6, .int .i64 e.C.lv.x7, .int .i64 e.C.lv.x8, .int .i64 e.e26, .string e.e27, .int .i64 e.e28] 34).alloc _)
  have X2 : Hid (Blk ((w.alloc (.cells #[.int .i64 e.e0, .string e.e1, .string e.e2, .int .i64 e.e3, .bool e.e4, .string e.e5, .int .i64 e.e6, .int .i64 e.e7, .slice e.a8 e.n8 e.c8, .slice e.a9 e.n9 e.c9, .string e.C.tx, .int .i64 e.C.n, .int .i64 e.C.tg, .bool e.C.th, .string e.C.via, .slice e.a.aA e.C.nA e.a.aC, .slice e.a.dA e.C.nD e.a.dC, .slice e.a.uA e.C.lv.nU e.a.uC, .slice e.a.kA e.C.lv.nK e.a.kC, .int .i64 e.C.lv.d, .int .i64 e.C.lv.x3, .int .i64 e.C.lv.x4, .int .i64 e.C.lv.x5, .int .i64 e.C.lv.x6, .int .i64 e.C.lv.x7, .int .i64 e.C.lv.x8, .int .i64 e.e26, .string e.e27, .int .i64 e.e28] 34)).alloc (.cells #[.int .i64 e.e0, .string e.e1, .string e.e2, .int .i64 e.e3, .bool e.e4, .string e.e5, .int .i64 e.e6, .int .i64 e.e7, .slice A8 e.n8 d8, .slice A9 e.n9 d9, .string e.C.tx, .int .i64 e.C.n, .int .i64 e.C.tg, .bool e.C.th, .string e.C.via, .slice a.aA e.C.nA a.aC, .slice a.dA e.C.nD a.dC, .slice a.uA e.C.lv.nU a.uC, .slice a.kA e.C.lv.nK a.kC, .int .i64 e.C.lv.d, .int .i64 e.C.lv.x3, .int .i64 e.C.lv.x4, .int .i64 e.C.lv.x5, .int .i64 e.C.lv.x6, .int .i64 e.C.lv.x7, .int .i64 e.C.lv.x8, .int .i64 e.e26, .string e.e27, .int .i64 e.e28] 34)) (w.heap.size + 1) [.int .i64 e.e0, .string e.e1, .string e.e2, .int .i64 e.e3, .bool e.e4, .string e.e5, .int .i64 e.e6, .int .i64 e.e7, .slice A8 e.n8 d8, .slice A9 e.n9 d9, .string e.C.tx, .int .i64 e.C.n, .int .i64 e.C.tg, .bool e.C.th, .string e.C.via, .slice a.aA e.C.nA a.aC, .slice a.dA e.C.nD a.dC, .slice a.uA e.C.lv.nU a.uC, .slice a.kA e.C.lv.nK a.kC, .int .i64 e.C.lv.d, .int .i64 e.C.lv.x3, .int .i64 e.C.lv.x4, .int .i64 e.C.lv.x5, .int .i64 e.C.lv.x6, .int .i64 e.C.lv.x7, .int .i64 e.C.lv.x8, .int .i64 e.e26, .string e.e27, .int .i64 e.e28] 34) := Lib.hid (by
    have := blk_new (w.alloc (.cells #[.int .i64 e.e0, .string e.e1, .string e.e2, .int .i64 e.e3, .bool e.e4, .string e.e5, .int .i64 e.e6, .int .i64 e.e7, .slice e.a8 e.n8 e.c8, .slice e.a9 e.n9 e.c9, .string e.C.tx, .int .i64 e.C.n, .int .i64 e.C.tg, .bool e.C.th, .string e.C.via, .slice e.a.aA e.C.nA e.a.aC, .slice e.a.dA e.C.nD e.a.dC, .slice e.a.uA e.C.lv.nU e.a.uC, .slice e.a.kA e.C.lv.nK e.a.kC, .int .i64 e.C.lv.d, .int .i64 e.C.lv.x3, .int .i64 e.C.lv.x4, .int .i64 e.C.lv.x5, .int .i64 e.C.lv.x6, .int .i64 e.C.lv.x7, .int .i64 e.C.lv.x8, .int .i64 e.e26, .string e.e27, .int .i64 e.e28] 34)) [.int .i64 e.e0, .string e.e1, .string e.e2, .int .i64 e.e3, .bool e.e4, .string e.e5, .int .i64 e.e6, .int .i64 e.e7, .slice A8 e.n8 d8, .slice A9 e.n9 d9, .string e.C.tx, .int .i64 e.C.n, .int .i64 e.C.tg, .bool e.C.th, .string e.C.via, .slice a.aA e.C.nA a.aC, .slice a.dA e.C.nD a.dC, .slice a.uA e.C.lv.nU a.uC, .slice a.kA e.C.lv.nK a.kC, .int .i64 e.C.lv.d, .int .i64 e.C.lv.x3, .int .i64 e.C.lv.x4, .int .i64 e.C.lv.x5, .int .i64 e.C.lv.x6, .int .i64 e.C.lv.x7, .int .i64 e.C.lv.x8, .int .i64 e.e26, .string e.e27, .int .i64 e.e28] 34
    rw [World.size_alloc] at this
    exact this)
  have H1 := Lib.hid (h1.below B0.out)
  have H2 := Lib.hid (And.intro (h2c.below B0.out) (And.intro (h28.below B0.out) (h29.below B0.out)))
  have H8 := Lib.hid hn8
  have H9 := Lib.hid hn9
  clear h1 h2c h28 h29 hn8 hn9
  go_enter Try.func42, Try.ntmps42
  go_upto_region 1 with (fail)
  generalize hw2 : (w.alloc _).alloc _ = w2 at B0 X1 X2 H1 H2 ⊢
  clear hw2
  have R0 := Lib.hid (Below.refl w2.heap.size w2)
  have k0 := (X1.out.below R0.out).cell (i := 0) rfl; have k1 := (X1.out.below R0.out).cell (i := 1) rfl; have k2 := (X1.out.below R0.out).cell (i := 2) rfl; have k3 := (X1.out.below R0.out).cell (i := 3) rfl; have k4 := (X1.out.below R0.out).cell (i := 4) rfl; have k5 := (X1.out.below R0.out).cell (i := 5) rfl; have k6 := (X1.out.below R0.out).cell (i := 6) rfl; have k7 := (X1.out.below R0.out).cell (i := 7) rfl; have k8 := (X1.out.below R0.out).cell (i := 8) rfl; have m0 := (X2.out.below R0.out).cell (i := 0) rfl; have m1 := (X2.out.below R0.out).cell (i := 1) rfl; have m2 := (X2.out.below R0.out).cell (i := 2) rfl; have m3 := (X2.out.below R0.out).cell (i := 3) rfl; have m4 := (X2.out.below R0.out).cell (i := 4) rfl; have m5 := (X2.out.below R0.out).cell (i := 5) rfl; have m6 := (X2.out.below R0.out).cell (i := 6) rfl; have m7 := (X2.out.below R0.out).cell (i := 7) rfl; have m8 := (X2.out.below R0.out).cell (i := 8) rfl; have k9 := (X1.out.below R0.out).cell (i := 9) rfl; have m9 := (X2.out.below R0.out).cell (i := 9) rfl
  have q1 : (e.e1.toList == e.e1.toList) = true := beq_self_eq_true _
  have q2 : (e.e2.toList == e.e2.toList) = true := beq_self_eq_true _
  have q5 : (e.e5.toList == e.e5.toList) = true := beq_self_eq_true _
  have q27 : (e.e27.toList == e.e27.toList) = true := beq_self_eq_true _
  have C8 := Lib.hid (fun w3 (hb : Below w2.heap.size w2 w3) => same15_refl e.a8 A8 e.n8 e.c8 d8 e.p8 w3 (H1.out.p8.below hb) (H2.out.2.1.below hb) H8.out)
  have C9 := Lib.hid (fun w3 (hb : Below w2.heap.size w2 w3) => same15_refl e.a9 A9 e.n9 e.c9 d9 e.p9 w3 (H1.out.p9.below hb) (H2.out.2.2.below hb) H9.out)
  have CC := Lib.hid (fun w3 (hb : Below w2.heap.size w2 w3) => same54 e.C e.a a w3 (H1.out.c.below hb) (H2.out.1.below hb))
  (try simp only [List.append_eq, List.cons_append, List.nil_append])
  go_wp2_with (first
    | (go_at_call 15; (with_reducible refine (C8.out _ (Below.refl _ _)).mono ?_); rintro r w3 ⟨rfl, hb⟩; have B3 := Lib.hid hb; clear k0 m0 k1 m1 k2 m2 k3 m3 k4 m4 k5 m5 k6 m6 k7 m7 k8 m8 k9 m9; clear q1 q2 q5; have k9 := (X1.out.below hb).cell (i := 9) rfl; have m9 := (X2.out.below hb).cell (i := 9) rfl; clear hb)
    | (go_at_call 15; (with_reducible refine (C9.out _ B3.out).mono ?_); rintro r w4 ⟨rfl, hb⟩; have B4 := Lib.hid (B3.out.trans (hb.mono B3.out.size)); clear k9 m9; clear hb; have R1 := Lib.hid ((X1.out.below B4.out).midOf 10 (cells e.C e.a) rfl); have R2 := Lib.hid ((X2.out.below B4.out).midOf 10 (cells e.C a) rfl))
    | (refine load_mid_g (by rfl) 30 _ rfl w.heap.size 10 rfl (cells e.C e.a) _ R1.out Try.underlying30 rfl size28c ?_)
    | (refine load_mid_g (by rfl) 30 _ rfl (w.heap.size + 1) 10 rfl (cells e.C a) _ R2.out Try.underlying30 rfl size28c ?_)
    | (go_at_call 54; (with_reducible refine (CC.out _ B4.out).mono ?_); rintro r w5 ⟨rfl, hb⟩; have B5 := Lib.hid (B4.out.trans (hb.mono B4.out.size)); have k26 := (X1.out.below B5.out).cell (i := 26) rfl; have k27 := (X1.out.below B5.out).cell (i := 27) rfl; have k28 := (X1.out.below B5.out).cell (i := 28) rfl; have m26 := (X2.out.below B5.out).cell (i := 26) rfl; have m27 := (X2.out.below B5.out).cell (i := 27) rfl; have m28 := (X2.out.below B5.out).cell (i := 28) rfl; clear hb)
    | go_in)
  go_ret
  exact ⟨rfl, B0.out.trans (B5.out.mono B0.out.size)⟩
set_option maxRecDepth 100000 in
set_option maxHeartbeats 4000000 in
theorem sameAll21 (A1 A2 : Option Addr) (n c1 c2 : Nat) (E F : Nat → Evd) (w : World) (h1 : Evx w A1 n E) (h2 : Evx w A2 n F) (he : ∀ j, j < n → dat (E j) = dat (F j)) (hb : ∀ j, j < n → (E j).n8 ≤ 1000000 ∧ (E j).n9 ≤ 1000000) : Calls Try.prog 21 #[.slice A1 n c1, .slice A2 n c2] w fun r w' => r = .returned (.bool true) ∧ Below w.heap.size w w' := by
  have H1 := Lib.hid h1
  have H2 := Lib.hid h2
  have HE := Lib.hid he
  have HB := Lib.hid hb
  have hbig := h1.big
  clear h1 h2 he hb
  go_enter Try.func21, Try.ntmps21
  go_wp2
  go_loopg [5] n (fun gg s5 wr => ∃ kk : Nat, kk ≤ n ∧ n - kk ≤ gg ∧ s5 = .int .i64 kk ∧ Hid (Below w.heap.size w wr))
  case atStart => exact ⟨0, Nat.zero_le _, by omega, rfl, Lib.hid (Below.refl _ w)⟩
  case round =>
    obtain ⟨kk, hkk, hg, rfl, BW⟩ := hrel
    by_cases hlt : kk < n
    · have hltz : (kk : Int) < (n : Int) := by omega
      have hk0 : (0 : Int) ≤ (kk : Int) := by omega
      have G1 := Lib.hid (H1.out.below BW.out)
      have G2 := Lib.hid (H2.out.below BW.out)
      obtain ⟨b1, o1, rfl, _⟩ := G1.out.get hlt
      obtain ⟨b2, o2, rfl, _⟩ := G2.out.get hlt
      have RR := Lib.hid (fun u (hb : Below wr.heap.size wr u) => (show u.rangeAt b1 (o1 + kk * 29) (cellsE (E kk)) by obtain ⟨b, o, e, r⟩ := (G1.out.below hb).get hlt; cases e; exact r.out))
      have RS := Lib.hid (fun u (hb : Below wr.heap.size wr u) => (show u.rangeAt b2 (o2 + kk * 29) (cellsE (F kk)) by obtain ⟨b, o, e, r⟩ := (G2.out.below hb).get hlt; cases e; exact r.out))
      have HC := Lib.hid (fun u (hb : Below wr.heap.size wr u) => (show Calls Try.prog 42 #[.agg (cellsE (E kk)).toArray, .agg (cellsE (F kk)).toArray] u _ by
        rw [mv_of_dat (HE.out kk hlt)]
        have hx : Beh u (mvE (E kk) (F kk).a8 (F kk).c8 (F kk).a9 (F kk).c9 (F kk).a) := by have := (G2.out.below hb).beh hlt; rwa [mv_of_dat (HE.out kk hlt)] at this
        exact same42 (E kk) _ _ _ _ _ u ((G1.out.below hb).beh hlt) hx.c hx.p8 hx.p9 (HB.out kk hlt).1 (HB.out kk hlt).2))
      go_upto_region 6 with (fail)
      refine wp_region_held_drew (S := (fun y => Below wr.heap.size wr y)) (by kernel_rfl) ((Below.refl wr.heap.size wr).drew) (fun hH0 => ?_)
      generalize hy0 : World.drew _ = y0 at hH0 ⊢
      have RB0 : Hid (Below wr.heap.size wr y0) := Lib.hid hH0
      clear hy0
      refine wpAnyH_take (i := 0) (oi := ({ dst := some 17, op := Op.move (Operand.tmp 0), type := 44, pos := "ref.go:240", after := #[], guard := none } : Oper)) (v := ?hv1) rfl (by kernel_rfl) (by kernel_rfl) (by kernel_rfl) (fun _ _ _ h => h) (Or.inl ⟨by rfl, ?hy1⟩) (by assumption) ?hr1
      case hy1 => (intro w hSw; (try dsimp only at hSw); go_simp; (try with_reducible rfl))
      try simp only [Act.put, List.setIfInBounds_toArray, List.set_cons_zero, List.set_cons_succ]
      refine wpAnyH_take (i := 1) (oi := ({ dst := some 18, op := Op.move (Operand.tmp 5), type := 3, pos := "ref.go:240", after := #[], guard := none } : Oper)) (v := ?hv2) rfl (by kernel_rfl) (by kernel_rfl) (by kernel_rfl) (fun _ _ _ h => h) (Or.inl ⟨by rfl, ?hy2⟩) (by assumption) ?hr2
      case hy2 => (intro w hSw; (try dsimp only at hSw); go_simp; (try with_reducible rfl))
      try simp only [Act.put, List.setIfInBounds_toArray, List.set_cons_zero, List.set_cons_succ]
      refine wpAnyH_take (i := 2) (oi := ({ dst := some 19, op := Op.indexAddr 44 (Operand.tmp 17) (Operand.tmp 18), type := 0, pos := "ref.go:240", after := #[{ on := 0, ground := Ground.data }, { on := 1, ground := Ground.data }], guard := none } : Oper)) (v := ?hv3) rfl (by kernel_rfl) (by kernel_rfl) (by kernel_rfl) (fun _ _ _ h => h) (Or.inl ⟨by rfl, ?hy3⟩) (by assumption) ?hr3
      case hy3 => (intro w hSw; (try dsimp only at hSw); go_simp; (try with_reducible rfl))
      try simp only [Act.put, List.setIfInBounds_toArray, List.set_cons_zero, List.set_cons_succ]
      refine wpAnyH_take (i := 3) (oi := ({ dst := some 20, op := Op.load 34 (Operand.tmp 19), type := 34, pos := "ref.go:240", after := #[{ on := 2, ground := Ground.data }], guard := none } : Oper)) (v := .agg (cellsE (E kk)).toArray) rfl (by kernel_rfl) (by kernel_rfl) (by kernel_rfl) (fun _ _ _ h => h) (yieldsIf_load_mid (by rfl) 34 _ rfl b1 (o1 + kk * 29) rfl (cellsE (E kk)) _ (fun w0 hw0 => RR.out w0 hw0) Try.underlying34 rfl size39) (by assumption) ?_
      try simp only [Act.put, List.setIfInBounds_toArray, List.set_cons_zero, List.set_cons_succ]
      refine wpAnyH_take (i := 4) (oi := ({ dst := some 21, op := Op.move (Operand.tmp 1), type := 44, pos := "ref.go:240", after := #[], guard := none } : Oper)) (v := ?hv4) rfl (by kernel_rfl) (by kernel_rfl) (by kernel_rfl) (fun _ _ _ h => h) (Or.inl ⟨by rfl, ?hy4⟩) (by assumption) ?hr4
      case hy4 => (intro w hSw; (try dsimp only at hSw); go_simp; (try with_reducible rfl))
      try simp only [Act.put, List.setIfInBounds_toArray, List.set_cons_zero, List.set_cons_succ]
      refine wpAnyH_take (i := 5) (oi := ({ dst := some 22, op := Op.move (Operand.tmp 5), type := 3, pos := "ref.go:240", after := #[], guard := none } : Oper)) (v := ?hv5) rfl (by kernel_rfl) (by kernel_rfl) (by kernel_rfl) (fun _ _ _ h => h) (Or.inl ⟨by rfl, ?hy5⟩) (by assumption) ?hr5
      case hy5 => (intro w hSw; (try dsimp only at hSw); go_simp; (try with_reducible rfl))
      try simp only [Act.put, List.setIfInBounds_toArray, List.set_cons_zero, List.set_cons_succ]
      refine wpAnyH_take (i := 6) (oi := ({ dst := some 23, op := Op.indexAddr 44 (Operand.tmp 21) (Operand.tmp 22), type := 0, pos := "ref.go:240", after := #[{ on := 4, ground := Ground.data }, { on := 5, ground := Ground.data }], guard := none } : Oper)) (v := ?hv6) rfl (by kernel_rfl) (by kernel_rfl) (by kernel_rfl) (fun _ _ _ h => h) (Or.inl ⟨by rfl, ?hy6⟩) (by assumption) ?hr6
      case hy6 => (intro w hSw; (try dsimp only at hSw); go_simp; (try with_reducible rfl))
      try simp only [Act.put, List.setIfInBounds_toArray, List.set_cons_zero, List.set_cons_succ]
      refine wpAnyH_take (i := 7) (oi := ({ dst := some 24, op := Op.load 34 (Operand.tmp 23), type := 34, pos := "ref.go:240", after := #[{ on := 6, ground := Ground.data }], guard := none } : Oper)) (v := .agg (cellsE (F kk)).toArray) rfl (by kernel_rfl) (by kernel_rfl) (by kernel_rfl) (fun _ _ _ h => h) (yieldsIf_load_mid (by rfl) 34 _ rfl b2 (o2 + kk * 29) rfl (cellsE (F kk)) _ (fun w0 hw0 => RS.out w0 hw0) Try.underlying34 rfl size39) (by assumption) ?_
      try simp only [Act.put, List.setIfInBounds_toArray, List.set_cons_zero, List.set_cons_succ]
      refine wpAnyH_ready (rs := [8]) (by kernel_rfl) (by simp) ?_
      refine AllReadyH.cons (o := ({ dst := some 25, op := Op.call { callee := Callee.value (Operand.func 42), args := #[Operand.tmp 20, Operand.tmp 24], argTypes := #[34, 34] }, type := 4, pos := "ref.go:240", after := #[{ on := 3, ground := Ground.data }, { on := 7, ground := Ground.data }], guard := none } : Oper)) rfl (fun KK hKK => ?_) AllReadyH.nil
      go_simp
      (with_reducible refine (HC.out _ RB0.out).mono ?_)
      rintro e0 y1 ⟨rfl, hb⟩
      have RB1 := Lib.hid (RB0.out.trans (hb.mono RB0.out.size))
      clear hb
      refine hKK.out _ _ (RB1.out) (fun hH1 => ?_)
      clear hKK KK
      try simp only [Act.put, List.setIfInBounds_toArray, List.set_cons_zero, List.set_cons_succ]
      refine wpAnyH_take (i := 9) (oi := ({ dst := some 26, op := Op.unOp UnOp.not 4 (Operand.tmp 25), type := 4, pos := "ref.go:240", after := #[{ on := 8, ground := Ground.data }], guard := none } : Oper)) (v := ?hv7) rfl (by kernel_rfl) (by kernel_rfl) (by kernel_rfl) (fun _ _ _ h => h) (Or.inl ⟨by rfl, ?hy7⟩) (by assumption) ?hr7
      case hy7 => (intro w hSw; (try dsimp only at hSw); go_simp; (try with_reducible rfl))
      try simp only [Act.put, List.setIfInBounds_toArray, List.set_cons_zero, List.set_cons_succ]
      refine wpAnyH_done (by kernel_rfl) ?_ _
      go_wp2
      go_roundg (n - (kk + 1))
      case measure => omega
      case rel => exact ⟨kk + 1, by omega, by omega, by go_num, Lib.hid (BW.out.trans (RB1.out.mono BW.out.size))⟩
    · have hltz : ¬ (kk : Int) < (n : Int) := by omega
      have : kk = n := by omega
      subst this
      go_wp2
      go_ret
      exact ⟨rfl, BW.out⟩
end Go.Proofs.Ytbedibiodlgegaa
