/- R06.Same of contents, R07.Same of events, R07.SameAll: true at the same data. Bound: none beyond a slice's. -/
import Derived.Test.YtbedibiodlgegaaK13
import Derived.Test.YtbedibiodlgegaaQL10
import Derived.Deep.QuietTactic
import Derived.BigQuiet
import Derived.WalkSmall
namespace Go.Proofs.Ytbedibiodlgegaa
open Go Go.RowKit
set_option linter.unusedVariables false
set_option linter.unusedSimpArgs false

set_option maxHeartbeats 1000000 in
theorem texts62 (A1 A2 : Option Addr) (n c1 c2 : Nat) (zs : List ByteArray) (w : World) (h1 : Txs w A1 n c1 zs) (h2 : Txs w A2 n c2 zs) : Calls Try.prog 62 #[.slice A1 n c1, .slice A2 n c2] w fun e w' => e = .returned (.bool true) ∧ Below w.heap.size w w' := by
  have H1 := Lib.hid h1
  have H2 := Lib.hid h2
  have hbig := h1.rws.big
  unfold maxLen at hbig
  clear h1 h2
  go_enter Try.func62, Try.ntmps62
  go_wp2
  go_loopg [5] n (fun gg s5 wr => ∃ kk : Nat, kk ≤ n ∧ n - kk ≤ gg ∧ s5 = .int .i64 kk ∧ Hid (Below w.heap.size w wr))
  case atStart => exact ⟨0, Nat.zero_le _, by omega, rfl, Lib.hid (Below.refl _ w)⟩
  case round =>
    obtain ⟨kk, hkk, hg, rfl, BW⟩ := hrel
    by_cases hlt : kk < n
    · have hltz : (kk : Int) < (n : Int) := by omega
      obtain ⟨b1, o1, rfl, t1, e1, _, d1⟩ := (H1.out.below BW.out).get hlt
      obtain ⟨b2, o2, rfl, t2, e2, _, d2⟩ := (H2.out.below BW.out).get hlt
      rw [← e1] at d1
      rw [← e2] at d2
      clear e1 e2
      generalize zs.getD kk ByteArray.empty = t at d1 d2
      have q : (t.toList == t.toList) = true := beq_self_eq_true _
      go_wp2
      go_quiet (fail)
      go_wp2
      go_roundg (n - (kk + 1))
      case measure => omega
      case rel => exact ⟨kk + 1, by omega, by omega, by go_num, Lib.hid (Q.below_dn BW.out _)⟩
    · have hltz : ¬ (kk : Int) < (n : Int) := by omega
      have : kk = n := by omega
      subst this
      go_wp2
      go_ret
      exact ⟨rfl, BW.out⟩
theorem rowK_at {w : World} {A : Option Addr} {n c : Nat} {K : Nat → Int × Int} (h : Rws w A n c 2 (rowK K)) {j : Nat} (hj : j < n) :
    ∃ b off, A = some ⟨b, off, none⟩ ∧ w.cell? ⟨b, off + j * 2, none⟩ = some (.int .i64 (K j).1) ∧ w.cell? ⟨b, off + j * 2 + 1, none⟩ = some (.int .i64 (K j).2) := by
  obtain ⟨b, off, e, _, hr⟩ := h.get hj
  exact ⟨b, off, e, hr 0 _ rfl, hr 1 _ rfl⟩
set_option maxRecDepth 100000 in
set_option maxHeartbeats 8000000 in
theorem levels63 (uA vA kA lA : Option Addr) (uC vC kC lC : Nat) (L : Lvl) (w : World) (hU : Rws w uA L.nU uC 2 (rowU L.U)) (hV : Rws w vA L.nU vC 2 (rowU L.U)) (hK : Rws w kA L.nK kC 2 (rowK L.K)) (hM : Rws w lA L.nK lC 2 (rowK L.K)) :
    Calls Try.prog 63 #[.agg (lvc uA L.nU uC kA L.nK kC L.d L.x3 L.x4 L.x5 L.x6 L.x7 L.x8).toArray, .agg (lvc vA L.nU vC lA L.nK lC L.d L.x3 L.x4 L.x5 L.x6 L.x7 L.x8).toArray] w fun e w' => e = .returned (.bool true) ∧ Below w.heap.size w w' := by
  show Calls Try.prog 63 #[.agg #[.slice uA L.nU uC, .slice kA L.nK kC, .int .i64 L.d, .int .i64 L.x3, .int .i64 L.x4, .int .i64 L.x5, .int .i64 L.x6, .int .i64 L.x7, .int .i64 L.x8], .agg #[.slice vA L.nU vC, .slice lA L.nK lC, .int .i64 L.d, .int .i64 L.x3, .int .i64 L.x4, .int .i64 L.x5, .int .i64 L.x6, .int .i64 L.x7, .int .i64 L.x8]] w _
  have B0 := Lib.hid (((Below.refl w.heap.size w).alloc (Nat.le_refl _) (.cells #[.slice uA L.nU uC, .slice kA L.nK kC, .int .i64 L.d, .int .i64 L.x3, .int .i64 L.x4, .int .i64 L.x5, .int .i64 L.x6, .int .i64 L.x7, .int .i64 L.x8] 28)).alloc (by simp) (.cells #[.slice vA L.nU vC, .slice lA L.nK lC, .int .i64 L.d, .int .i64 L.x3, .int .i64 L.x4, .int .i64 L.x5, .int .i64 L.x6, .int .i64 L.x7, .int .i64 L.x8] 28))
  have X1 : Hid (Blk ((w.alloc (.cells #[.slice uA L.nU uC, .slice kA L.nK kC, .int .i64 L.d, .int .i64 L.x3, .int .i64 L.x4, .int .i64 L.x5, .int .i64 L.x6, .int .i64 L.x7, .int .i64 L.x8] 28)).alloc (.cells #[.slice vA L.nU vC, .slice lA L.nK lC, .int .i64 L.d, .int .i64 L.x3, .int .i64 L.x4, .int .i64 L.x5, .int .i64 L.x6, .int .i64 L.x7, .int .i64 L.x8] 28)) w.heap.size (lvc uA L.nU uC kA L.nK kC L.d L.x3 L.x4 L.x5 L.x6 L.x7 L.x8) 28) := Lib.hid ((blk_new w (lvc uA L.nU uC kA L.nK kC L.d L.x3 L.x4 L.x5 L.x6 L.x7 L.x8) 28).alloc _)
  have X2 : Hid (Blk ((w.alloc (.cells #[.slice uA L.nU uC, .slice kA L.nK kC, .int .i64 L.d, .int .i64 L.x3, .int .i64 L.x4, .int .i64 L.x5, .int .i64 L.x6, .int .i64 L.x7, .int .i64 L.x8] 28)).alloc (.cells #[.slice vA L.nU vC, .slice lA L.nK lC, .int .i64 L.d, .int .i64 L.x3, .int .i64 L.x4, .int .i64 L.x5, .int .i64 L.x6, .int .i64 L.x7, .int .i64 L.x8] 28)) (w.heap.size + 1) (lvc vA L.nU vC lA L.nK lC L.d L.x3 L.x4 L.x5 L.x6 L.x7 L.x8) 28) := Lib.hid (by
    have := blk_new (w.alloc (.cells #[.slice uA L.nU uC, .slice kA L.nK kC, .int .i64 L.d, .int .i64 L.x3, .int .i64 L.x4, .int .i64 L.x5, .int .i64 L.x6, .int .i64 L.x7, .int .i64 L.x8] 28)) (lvc vA L.nU vC lA L.nK lC L.d L.x3 L.x4 L.x5 L.x6 L.x7 L.x8) 28
    rw [World.size_alloc] at this
    exact this)
  have HU := Lib.hid (hU.below B0.out)
  have HV := Lib.hid (hV.below B0.out)
  have HK := Lib.hid (hK.below B0.out)
  have HM := Lib.hid (hM.below B0.out)
  have hbu := hU.big
  have hbk := hK.big
  unfold maxLen at hbu hbk
  clear hU hV hK hM
  go_enter Try.func63, Try.ntmps63
  go_upto_region 1 with (fail)
  generalize hw2 : (w.alloc _).alloc _ = w2 at B0 X1 X2 HU HV HK HM ⊢
  clear hw2
  have k0 := X1.out.cell (i := 0) rfl
  have k1 := X1.out.cell (i := 1) rfl
  have m0 := X2.out.cell (i := 0) rfl
  have m1 := X2.out.cell (i := 1) rfl
  go_wp2
  clear k0 k1 m0 m1
  go_loopg [5] L.nU (fun gg s5 wr => ∃ kk : Nat, kk ≤ L.nU ∧ L.nU - kk ≤ gg ∧ s5 = .int .i64 kk ∧ Hid (Below w2.heap.size w2 wr))
  case atStart => exact ⟨0, Nat.zero_le _, by omega, rfl, Lib.hid (Below.refl _ _)⟩
  case round =>
    obtain ⟨kk, hkk, hg, rfl, BW⟩ := hrel
    have k0 := (X1.out.below BW.out).cell (i := 0) rfl
    have m0 := (X2.out.below BW.out).cell (i := 0) rfl
    by_cases hlt : kk < L.nU
    · have hltz : (kk : Int) < (L.nU : Int) := by omega
      obtain ⟨b1, o1, rfl, d1, f1⟩ := (HU.out.below BW.out).user hlt
      obtain ⟨b2, o2, rfl, d2, f2⟩ := (HV.out.below BW.out).user hlt
      generalize (L.U kk).1 = t at d1 d2
      generalize (L.U kk).2 = x at f1 f2
      have q : (t.toList == t.toList) = true := beq_self_eq_true _
      have q2 : (x != x) = false := by simp
      go_wp2
      go_quiet (fail)
      go_wp2
      go_roundg (L.nU - (kk + 1))
      case measure => omega
      case rel => exact ⟨kk + 1, by omega, by omega, by go_num, Lib.hid (Q.below_dn BW.out _)⟩
    · have hltz : ¬ (kk : Int) < (L.nU : Int) := by omega
      go_wp2
      clear k0 m0 hltz hlt hg hkk
      go_loopg [6] L.nK (fun gg s6 wq => ∃ jj : Nat, jj ≤ L.nK ∧ L.nK - jj ≤ gg ∧ s6 = .int .i64 jj ∧ Hid (Below wr.heap.size wr wq))
      case atStart => exact ⟨0, Nat.zero_le _, by omega, rfl, Lib.hid (Below.refl _ _)⟩
      case round =>
        obtain ⟨jj, hkk, hg, rfl, BQ⟩ := hrel
        have BX := Lib.hid (BW.out.trans (BQ.out.mono BW.out.size))
        by_cases hlt : jj < L.nK
        · have hltz : (jj : Int) < (L.nK : Int) := by omega
          have k1 := (X1.out.below BX.out).cell (i := 1) rfl
          have m1 := (X2.out.below BX.out).cell (i := 1) rfl
          obtain ⟨b1, o1, rfl, d1, f1⟩ := rowK_at (HK.out.below BX.out) hlt
          obtain ⟨b2, o2, rfl, d2, f2⟩ := rowK_at (HM.out.below BX.out) hlt
          generalize (L.K jj).1 = t at d1 d2
          generalize (L.K jj).2 = x at f1 f2
          have q : (t != t) = false := by simp
          have q2 : (x != x) = false := by simp
          go_wp2
          go_quiet (fail)
          go_wp2
          go_roundg (L.nK - (jj + 1))
          case measure => omega
          case rel => exact ⟨jj + 1, by omega, by omega, by go_num, Lib.hid (Q.below_dn BQ.out _)⟩
        · have hltz : ¬ (jj : Int) < (L.nK : Int) := by omega
          have Y1 := X1.out.below BX.out
          have Y2 := X2.out.below BX.out
          have k1 := Y1.cell (i := 1) rfl
          have m1 := Y2.cell (i := 1) rfl
          have k2 := Y1.cell (i := 2) rfl
          have k3 := Y1.cell (i := 3) rfl
          have k4 := Y1.cell (i := 4) rfl
          have k5 := Y1.cell (i := 5) rfl
          have k6 := Y1.cell (i := 6) rfl
          have k7 := Y1.cell (i := 7) rfl
          have k8 := Y1.cell (i := 8) rfl
          have m2 := Y2.cell (i := 2) rfl
          have m3 := Y2.cell (i := 3) rfl
          have m4 := Y2.cell (i := 4) rfl
          have m5 := Y2.cell (i := 5) rfl
          have m6 := Y2.cell (i := 6) rfl
          have m7 := Y2.cell (i := 7) rfl
          have m8 := Y2.cell (i := 8) rfl
          go_wp2
          go_ret
          exact ⟨rfl, B0.out.trans (BX.out.mono B0.out.size)⟩
theorem Blk.midOf {w : World} {t : Nat} {cs : List Value} {T : TypeId} (h : Blk w t cs T) (o : Nat) (ds : List Value) (e : (cs.drop o).take ds.length = ds) : World.rangeAt w t o ds := by
  have := h.mid o ds.length
  rwa [e] at this
set_option maxRecDepth 100000 in
set_option maxHeartbeats 8000000 in
theorem same54 (C : Ct) (a b : Ads) (w : World) (h1 : IsCt w C a) (h2 : IsCt w C b) : Calls Try.prog 54 #[.agg (cells C a).toArray, .agg (cells C b).toArray] w fun e w' => e = .returned (.bool true) ∧ Below w.heap.size w w' := by
  show Calls Try.prog 54 #[.agg #[.string C.tx, .int .i64 C.n, .int .i64 C.tg, .bool C.th, .string C.via, .slice a.aA C.nA a.aC, .slice a.dA C.nD a.dC, .slice a.uA C.lv.nU a.uC, .slice a.kA C.lv.nK a.kC, .int .i64 C.lv.d, .int .i64 C.lv.x3, .int .i64 C.lv.x4, .int .i64 C.lv.x5, .int .i64 C.lv.x6, .int .i64 C.lv.x7, .int .i64 C.lv.x8], .agg #[.string C.tx, .int .i64 C.n, .int .i64 C.tg, .bool C.th, .string C.via, .slice b.aA C.nA b.aC, .slice b.dA C.nD b.dC, .slice b.uA C.lv.nU b.uC, .slice b.kA C.lv.nK b.kC, .int .i64 C.lv.d, .int .i64 C.lv.x3, .int .i64 C.lv.x4, .int .i64 C.lv.x5, .int .i64 C.lv.x6, .int .i64 C.lv.x7, .int .i64 C.lv.x8]] w _
  have B0 := Lib.hid (((Below.refl w.heap.size w).alloc (Nat.le_refl _) (.cells #[.string C.tx, .int .i64 C.n, .int .i64 C.tg, .bool C.th, .string C.via, .slice a.aA C.nA a.aC, .slice a.dA C.nD a.dC, .slice a.uA C.lv.nU a.uC, .slice a.kA C.lv.nK a.kC, .int .i64 C.lv.d, .int .i64 C.lv.x3, .int .i64 C.lv.x4, .int .i64 C.lv.x5, .int .i64 C.lv.x6, .int .i64 C.lv.x7, .int .i64 C.lv.x8] 30)).alloc (by simp) (.cells #[.string C.tx, .int .i64 C.n, .int .i64 C.tg, .bool C.th, .string C.via, .slice b.aA C.nA b.aC, .slice b.dA C.nD b.dC, .slice b.uA C.lv.nU b.uC, .slice b.kA C.lv.nK b.kC, .int .i64 C.lv.d, .int .i64 C.lv.x3, .int .i64 C.lv.x4, .int .i64 C.lv.x5, .int .i64 C.lv.x6, .int .i64 C.lv.x7, .int .i64 C.lv.x8] 30))
  have X1 : Hid (Blk ((w.alloc (.cells #[.string C.tx, .int .i64 C.n, .int .i64 C.tg, .bool C.th, .string C.via, .slice a.aA C.nA a.aC, .slice a.dA C.nD a.dC, .slice a.uA C.lv.nU a.uC, .slice a.kA C.lv.nK a.kC, .int .i64 C.lv.d, .int .i64 C.lv.x3, .int .i64 C.lv.x4, .int .i64 C.lv.x5, .int .i64 C.lv.x6, .int .i64 C.lv.x7, .int .i64 C.lv.x8] 30)).alloc (.cells #[.string C.tx, .int .i64 C.n, .int .i64 C.tg, .bool C.th, .string C.via, .slice b.aA C.nA b.aC, .slice b.dA C.nD b.dC, .slice b.uA C.lv.nU b.uC, .slice b.kA C.lv.nK b.kC, .int .i64 C.lv.d, .int .i64 C.lv.x3, .int .i64 C.lv.x4, .int .i64 C.lv.x5, .int .i64 C.lv.x6, .int .i64 C.lv.x7, .int .i64 C.lv.x8] 30)) w.heap.size (cells C a) 30) := Lib.hid ((blk_new w (cells C a) 30).alloc _)
  have X2 : Hid (Blk ((w.alloc (.cells #[.string C.tx, .int .i64 C.n, .int .i64 C.tg, .bool C.th, .string C.via, .slice a.aA C.nA a.aC, .slice a.dA C.nD a.dC, .slice a.uA C.lv.nU a.uC, .slice a.kA C.lv.nK a.kC, .int .i64 C.lv.d, .int .i64 C.lv.x3, .int .i64 C.lv.x4, .int .i64 C.lv.x5, .int .i64 C.lv.x6, .int .i64 C.lv.x7, .int .i64 C.lv.x8] 30)).alloc (.cells #[.string C.tx, .int .i64 C.n, .int .i64 C.tg, .bool C.th, .string C.via, .slice b.aA C.nA b.aC, .slice b.dA C.nD b.dC, .slice b.uA C.lv.nU b.uC, .slice b.kA C.lv.nK b.kC, .int .i64 C.lv.d, .int .i64 C.lv.x3, .int .i64 C.lv.x4, .int .i64 C.lv.x5, .int .i64 C.lv.x6, .int .i64 C.lv.x7, .int .i64 C.lv.x8] 30)) (w.heap.size + 1) (cells C b) 30) := Lib.hid (by
    have := blk_new (w.alloc (.cells #[.string C.tx, .int .i64 C.n, .int .i64 C.tg, .bool C.th, .string C.via, .slice a.aA C.nA a.aC, .slice a.dA C.nD a.dC, .slice a.uA C.lv.nU a.uC, .slice a.kA C.lv.nK a.kC, .int .i64 C.lv.d, .int .i64 C.lv.x3, .int .i64 C.lv.x4, .int .i64 C.lv.x5, .int .i64 C.lv.x6, .int .i64 C.lv.x7, .int .i64 C.lv.x8] 30)) (cells C b) 30
    rw [World.size_alloc] at this
    exact this)
  have H1 := Lib.hid (h1.below B0.out)
  have H2 := Lib.hid (h2.below B0.out)
  clear h1 h2
  go_enter Try.func54, Try.ntmps54
  go_upto_region 1 with (fail)
  generalize hw2 : (w.alloc _).alloc _ = w2 at B0 X1 X2 H1 H2 ⊢
  clear hw2
  have k0 := X1.out.cell (i := 0) rfl
  have k1 := X1.out.cell (i := 1) rfl
  have k2 := X1.out.cell (i := 2) rfl
  have k3 := X1.out.cell (i := 3) rfl
  have k4 := X1.out.cell (i := 4) rfl
  have k5 := X1.out.cell (i := 5) rfl
  have m0 := X2.out.cell (i := 0) rfl
  have m1 := X2.out.cell (i := 1) rfl
  have m2 := X2.out.cell (i := 2) rfl
  have m3 := X2.out.cell (i := 3) rfl
  have m4 := X2.out.cell (i := 4) rfl
  have m5 := X2.out.cell (i := 5) rfl
  have q1 : (C.tx.toList == C.tx.toList) = true := beq_self_eq_true _
  have q2 : (C.via.toList == C.via.toList) = true := beq_self_eq_true _
  have CA := Lib.hid (fun w3 (hb : Below w2.heap.size w2 w3) => texts62 a.aA b.aA C.nA a.aC b.aC C.al w3 (H1.out.al.below hb) (H2.out.al.below hb))
  have CD := Lib.hid (fun w3 (hb : Below w2.heap.size w2 w3) => texts62 a.dA b.dA C.nD a.dC b.dC C.dn w3 (H1.out.dn.below hb) (H2.out.dn.below hb))
  have CL := Lib.hid (fun w3 (hb : Below w2.heap.size w2 w3) => levels63 a.uA b.uA a.kA b.kA a.uC b.uC a.kC b.kC C.lv w3 (H1.out.us.below hb) (H2.out.us.below hb) (H1.out.ks.below hb) (H2.out.ks.below hb))
  (try simp only [List.append_eq, List.cons_append, List.nil_append])
  go_wp2_with (first
    | (go_at_call 62; (with_reducible refine (CA.out _ (Below.refl _ _)).mono ?_); rintro e w3 ⟨rfl, hb⟩; have B3 := Lib.hid hb; clear k0 k1 k2 k3 k4 k5 m0 m1 m2 m3 m4 m5 q1 q2; have k6 := (X1.out.below hb).cell (i := 6) rfl; have m6 := (X2.out.below hb).cell (i := 6) rfl; clear hb)
    | (go_at_call 62; (with_reducible refine (CD.out _ B3.out).mono ?_); rintro e w4 ⟨rfl, hb⟩; have B4 := Lib.hid (B3.out.trans (hb.mono B3.out.size)); clear k6 m6 hb; have R1 := Lib.hid ((X1.out.below B4.out).midOf 7 (lvc a.uA C.lv.nU a.uC a.kA C.lv.nK a.kC C.lv.d C.lv.x3 C.lv.x4 C.lv.x5 C.lv.x6 C.lv.x7 C.lv.x8) rfl); have R2 := Lib.hid ((X2.out.below B4.out).midOf 7 (lvc b.uA C.lv.nU b.uC b.kA C.lv.nK b.kC C.lv.d C.lv.x3 C.lv.x4 C.lv.x5 C.lv.x6 C.lv.x7 C.lv.x8) rfl))
    | (refine load_mid_g (by rfl) 28 _ rfl w.heap.size 7 rfl (lvc a.uA C.lv.nU a.uC a.kA C.lv.nK a.kC C.lv.d C.lv.x3 C.lv.x4 C.lv.x5 C.lv.x6 C.lv.x7 C.lv.x8) _ R1.out Try.underlying28 rfl size28 ?_)
    | (refine load_mid_g (by rfl) 28 _ rfl (w.heap.size + 1) 7 rfl (lvc b.uA C.lv.nU b.uC b.kA C.lv.nK b.kC C.lv.d C.lv.x3 C.lv.x4 C.lv.x5 C.lv.x6 C.lv.x7 C.lv.x8) _ R2.out Try.underlying28 rfl size28 ?_)
    | (go_at_call 63; (with_reducible refine (CL.out _ B4.out).mono ?_); rintro e w5 ⟨rfl, hb⟩; have B5 := Lib.hid (B4.out.trans (hb.mono B4.out.size)); clear hb)
    | go_in)
  go_ret
  exact ⟨rfl, B0.out.trans (B5.out.mono B0.out.size)⟩
end Go.Proofs.Ytbedibiodlgegaa
