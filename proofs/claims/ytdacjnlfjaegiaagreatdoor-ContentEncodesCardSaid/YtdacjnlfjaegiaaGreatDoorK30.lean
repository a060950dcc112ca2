/- What is small. No condition. -/
import Derived.Test.YtdacjnlfjaegiaaGreatDoorK29
namespace Go.Proofs.YtdacjnlfjaegiaaGreatDoor
open Go Go.RowKit
set_option linter.unusedVariables false
set_option linter.unusedSimpArgs false
set_option maxRecDepth 100000

set_option maxHeartbeats 16000000 in
theorem small13 (C : Cn) (a : Ads) (w : World) (h : IsC w C a) : Calls Tryz.prog 13 #[.agg (ccs C a).toArray] w fun e w' => QB (SmE C) (Below w.heap.size w w') e := by
  obtain ⟨tx, n, tg, th, via, al, dn, us, ks, d, x3, x4, x5, x6, x7, x8⟩ := C
  obtain ⟨aA, aC, dA, dC, uA, uC, kA, kC⟩ := a
  have b1 := h.al.rws.big
  have b2 := h.dn.rws.big
  have b3 := h.tx
  have b4 := h.via
  unfold maxLen at b1 b2
  dsimp only at b1 b2 b3 b4
  have BA := Lib.hid ((Below.refl w.heap.size w).alloc (Nat.le_refl _) (.cells #[.string tx, .int .i64 n, .int .i64 tg, .bool th, .string via, .slice aA al.length aC, .slice dA dn.length dC, .slice uA us.length uC, .slice kA ks.length kC, .int .i64 d, .int .i64 x3, .int .i64 x4, .int .i64 x5, .int .i64 x6, .int .i64 x7, .int .i64 x8] 29))
  have XA := Lib.hid (blk_new w [.string tx, .int .i64 n, .int .i64 tg, .bool th, .string via, .slice aA al.length aC, .slice dA dn.length dC, .slice uA us.length uC, .slice kA ks.length kC, .int .i64 d, .int .i64 x3, .int .i64 x4, .int .i64 x5, .int .i64 x6, .int .i64 x7, .int .i64 x8] 29)
  have HA := Lib.hid (h.al.below BA.out)
  have HD := Lib.hid (h.dn.below BA.out)
  have HF := Lib.hid (few17 us ks d x3 x4 x5 x6 x7 x8 uA uC kA kC _ (h.lv.below BA.out))
  dsimp only at HA HD HF
  clear h
  generalize hW : w.alloc (.cells #[.string tx, .int .i64 n, .int .i64 tg, .bool th, .string via, .slice aA al.length aC, .slice dA dn.length dC, .slice uA us.length uC, .slice kA ks.length kC, .int .i64 d, .int .i64 x3, .int .i64 x4, .int .i64 x5, .int .i64 x6, .int .i64 x7, .int .i64 x8] 29) = W0 at BA XA HA HD HF
  have c0 := XA.out.cell (i := 0) rfl
  have c4 := XA.out.cell (i := 4) rfl
  have c5 := XA.out.cell (i := 5) rfl
  have c6 := XA.out.cell (i := 6) rfl
  show Calls Tryz.prog 13 #[.agg #[.string tx, .int .i64 n, .int .i64 tg, .bool th, .string via, .slice aA al.length aC, .slice dA dn.length dC, .slice uA us.length uC, .slice kA ks.length kC, .int .i64 d, .int .i64 x3, .int .i64 x4, .int .i64 x5, .int .i64 x6, .int .i64 x7, .int .i64 x8]] w _
  by_cases h0 : 1000 < tx.size
  · have z0 : (1000 : Int) < (tx.size : Int) := by omega
    go_enter Tryz.func13, Tryz.ntmps13
    go_wp2
    go_ret
    exact qb_no BA.out
  · have z0 : ¬ (1000 : Int) < (tx.size : Int) := by omega
    by_cases h1 : 200 < via.size
    · have z1 : (200 : Int) < (via.size : Int) := by omega
      go_enter Tryz.func13, Tryz.ntmps13
      go_wp2
      go_ret
      exact qb_no BA.out
    · have z1 : ¬ (200 : Int) < (via.size : Int) := by omega
      by_cases h2 : 120 < al.length
      · have z2 : (120 : Int) < (al.length : Int) := by omega
        go_enter Tryz.func13, Tryz.ntmps13
        go_wp2
        go_ret
        exact qb_no BA.out
      · have z2 : ¬ (120 : Int) < (al.length : Int) := by omega
        by_cases h3 : 120 < dn.length
        · have z3 : (120 : Int) < (dn.length : Int) := by omega
          go_enter Tryz.func13, Tryz.ntmps13
          go_wp2
          go_ret
          exact qb_no BA.out
        · have z3 : ¬ (120 : Int) < (dn.length : Int) := by omega
          go_enter Tryz.func13, Tryz.ntmps13
          go_wp2_with (first
            | (refine wpList_load_mid rfl 27 _ rfl w.heap.size 7 rfl [.slice uA us.length uC, .slice kA ks.length kC, .int .i64 d, .int .i64 x3, .int .i64 x4, .int .i64 x5, .int .i64 x6, .int .i64 x7, .int .i64 x8] _ (XA.out.mid 7 9) Tryz.underlying27 rfl size27 ?_)
            | (refine load_mid_g (by rfl) 27 _ rfl w.heap.size 7 rfl [.slice uA us.length uC, .slice kA ks.length kC, .int .i64 d, .int .i64 x3, .int .i64 x4, .int .i64 x5, .int .i64 x6, .int .i64 x7, .int .i64 x8] _ (XA.out.mid 7 9) Tryz.underlying27 rfl size27 ?_)
            | (go_at_call 17; (with_reducible refine HF.out.mono ?_); rintro e w1 ⟨q, rfl, hq, hb⟩; have Q1 := Lib.hid hq; have B1 := Lib.hid (BA.out.trans (hb.mono BA.out.size)); have X1 := Lib.hid (XA.out.below hb); have HA1 := Lib.hid (HA.out.below hb); have HD1 := Lib.hid (HD.out.below hb); clear hq hb c0 c4 c5 c6; have c5 := X1.out.cell (i := 5) rfl; have c6 := X1.out.cell (i := 6) rfl; cases q)
            | (go_at_call 34; (with_reducible refine (short34 aA al.length aC al _ HA1.out).mono ?_); rintro e w2 ⟨q, rfl, hq, rfl⟩; have Q2 := Lib.hid hq; clear hq; cases q)
            | (go_at_call 34; (with_reducible refine (short34 dA dn.length dC dn _ HD1.out).mono ?_); rintro e w2 ⟨q, rfl, hq, rfl⟩; have Q3 := Lib.hid hq; clear hq; cases q)
            | fail)
          all_goals (go_ret; first
            | exact qb_no B1.out
            | exact qb_yes ⟨by show tx.size ≤ 1000; omega, by show via.size ≤ 1000; omega, by show al.length ≤ 200; omega, fun s hs => Nat.le_trans (Q2.out (by trivial) s hs) (by decide), by show dn.length ≤ 200; omega, fun s hs => Nat.le_trans (Q3.out (by trivial) s hs) (by decide), Q1.out (by trivial)⟩ B1.out)
end Go.Proofs.YtdacjnlfjaegiaaGreatDoor
