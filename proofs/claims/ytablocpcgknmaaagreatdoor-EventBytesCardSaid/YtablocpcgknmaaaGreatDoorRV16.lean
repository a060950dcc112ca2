/- Whether an event is small. No condition. -/
import Derived.Test.YtablocpcgknmaaaGreatDoorRPq
import Derived.Test.YtablocpcgknmaaaGreatDoorRK29
namespace Go.Proofs.YtablocpcgknmaaaGreatDoor
open Go.Lib (hid)
open Go Go.RowKit
set_option linter.unusedVariables false
set_option linter.unusedSimpArgs false
set_option maxRecDepth 100000

set_option maxHeartbeats 8000000 in
theorem slight34 (C : Cn) (a : Ads) (w : World) (h : IsC w C a) : Calls Tryz.prog 34 #[.agg (ccs C a).toArray] w fun e w' => QB (SmE C) (Below w.heap.size w w') e := by
 have BA := hid ((Below.refl w.heap.size w).alloc (Nat.le_refl _) (.cells #[.string C.tx, .int .i64 C.n, .int .i64 C.tg, .bool C.th, .string C.via, .slice a.aA C.al.length a.aC, .slice a.dA C.dn.length a.dC, .slice a.uA C.us.length a.uC, .slice a.kA C.ks.length a.kC, .int .i64 C.d, .int .i64 C.x3, .int .i64 C.x4, .int .i64 C.x5, .int .i64 C.x6, .int .i64 C.x7, .int .i64 C.x8] 30))
 have XA := hid (blk_new w [.string C.tx, .int .i64 C.n, .int .i64 C.tg, .bool C.th, .string C.via, .slice a.aA C.al.length a.aC, .slice a.dA C.dn.length a.dC, .slice a.uA C.us.length a.uC, .slice a.kA C.ks.length a.kC, .int .i64 C.d, .int .i64 C.x3, .int .i64 C.x4, .int .i64 C.x5, .int .i64 C.x6, .int .i64 C.x7, .int .i64 C.x8] 30)
 have HA := hid (h.al.below BA.out)
 have HD := hid (h.dn.below BA.out)
 have HU := hid (h.lv.us.below BA.out)
 have m1 := h.al.rws.big
 have m2 := h.dn.rws.big
 have m3 := h.lv.us.big
 have m4 := h.lv.ks.big
 unfold maxLen at m1 m2 m3 m4
 dsimp only at m3 m4 HU
 clear h
 show Calls Tryz.prog 34 #[.agg #[.string C.tx, .int .i64 C.n, .int .i64 C.tg, .bool C.th, .string C.via, .slice a.aA C.al.length a.aC, .slice a.dA C.dn.length a.dC, .slice a.uA C.us.length a.uC, .slice a.kA C.ks.length a.kC, .int .i64 C.d, .int .i64 C.x3, .int .i64 C.x4, .int .i64 C.x5, .int .i64 C.x6, .int .i64 C.x7, .int .i64 C.x8]] w _
 generalize hW : w.alloc (.cells #[.string C.tx, .int .i64 C.n, .int .i64 C.tg, .bool C.th, .string C.via, .slice a.aA C.al.length a.aC, .slice a.dA C.dn.length a.dC, .slice a.uA C.us.length a.uC, .slice a.kA C.ks.length a.kC, .int .i64 C.d, .int .i64 C.x3, .int .i64 C.x4, .int .i64 C.x5, .int .i64 C.x6, .int .i64 C.x7, .int .i64 C.x8] 30) = W0 at BA XA HA HD HU
 have c0 := XA.out.cell (i := 0) rfl
 have c4 := XA.out.cell (i := 4) rfl
 have c5 := XA.out.cell (i := 5) rfl
 have c6 := XA.out.cell (i := 6) rfl
 have c7 := XA.out.cell (i := 7) rfl
 have c8 := XA.out.cell (i := 8) rfl
 by_cases h0 : 500 < C.tx.size
 ·have h0z : (500 : Int) < (C.tx.size : Int) := by omega
  go_enter Tryz.func34, Tryz.ntmps34
  go_wp2
  go_ret
  exact qb_no BA.out
 ·have h0z : ¬ (500 : Int) < (C.tx.size : Int) := by omega
  by_cases h1 : 100 < C.via.size
  ·have h1z : (100 : Int) < (C.via.size : Int) := by omega
   go_enter Tryz.func34, Tryz.ntmps34
   go_wp2
   go_ret
   exact qb_no BA.out
  ·have h1z : ¬ (100 : Int) < (C.via.size : Int) := by omega
   by_cases h2 : 110 < C.al.length
   ·have h2z : (110 : Int) < (C.al.length : Int) := by omega
    go_enter Tryz.func34, Tryz.ntmps34
    go_wp2
    go_ret
    exact qb_no BA.out
   ·have h2z : ¬ (110 : Int) < (C.al.length : Int) := by omega
    by_cases h3 : 110 < C.dn.length
    ·have h3z : (110 : Int) < (C.dn.length : Int) := by omega
     go_enter Tryz.func34, Tryz.ntmps34
     go_wp2
     go_ret
     exact qb_no BA.out
    ·have h3z : ¬ (110 : Int) < (C.dn.length : Int) := by omega
     by_cases h4 : 110 < C.us.length
     ·have h4z : (110 : Int) < (C.us.length : Int) := by omega
      go_enter Tryz.func34, Tryz.ntmps34
      go_wp2
      go_ret
      exact qb_no BA.out
     ·have h4z : ¬ (110 : Int) < (C.us.length : Int) := by omega
      by_cases h5 : 20 < C.ks.length
      ·have h5z : (20 : Int) < (C.ks.length : Int) := by omega
       go_enter Tryz.func34, Tryz.ntmps34
       go_wp2
       go_ret
       exact qb_no BA.out
      ·have h5z : ¬ (20 : Int) < (C.ks.length : Int) := by omega
       go_enter Tryz.func34, Tryz.ntmps34
       go_wp2
       go_loop [3] (fun s => ∃ (j : Nat), j ≤ C.al.length ∧ s = .int .i64 (j : Int) ∧ Hid (∀ i, i < j → (C.al.getD i ByteArray.empty).size ≤ 100)) (fun s => C.al.length - (intOf s).toNat)
       case atStart => exact ⟨0, Nat.zero_le _, by go_num, hid (fun i hi => absurd hi (Nat.not_lt_zero _))⟩
       case round =>
        obtain ⟨j, hj, rfl, HJ⟩ := hrel
        by_cases hlt : j < C.al.length
        ·have hltz : (j : Int) < (C.al.length : Int) := by omega
         have hk0 : (0 : Int) ≤ (j : Int) := by omega
         obtain ⟨b, off, ha, t, ht, hts, q0⟩ := HA.out.get hlt
         have HRt := hid ht
         have ha2 := hid ha
         clear ht ha
         have HJ1 := hid (fun (h : t.size ≤ 100) => show ∀ i, i < j + 1 → (C.al.getD i ByteArray.empty).size ≤ 100 from fun i hi => by
          by_cases e : i = j
          ·subst e; rw [HRt.out]; exact h
          ·exact HJ.out i (by omega))
         rw [ha2.out] at c5
         by_cases e1 : 100 < t.size
         ·have h3z : (100 : Int) < (t.size : Int) := by omega
          go_wp2
          go_ret
          exact qb_no BA.out
         ·have h3z : ¬ (100 : Int) < (t.size : Int) := by omega
          have HJ2 := hid (HJ1.out (by omega))
          go_wp2
          go_round
          case rel => exact ⟨j + 1, by omega, by go_num, HJ2⟩
          case measure => simp [intOf]; omega
        ·have hltz : ¬ (j : Int) < (C.al.length : Int) := by omega
         have HALL3 := hid (show ∀ i, i < C.al.length → (C.al.getD i ByteArray.empty).size ≤ 100 from fun i hi => HJ.out i (by omega))
         clear HJ
         go_wp2
         go_loop [4] (fun s => ∃ (j : Nat), j ≤ C.dn.length ∧ s = .int .i64 (j : Int) ∧ Hid (∀ i, i < j → (C.dn.getD i ByteArray.empty).size ≤ 100)) (fun s => C.dn.length - (intOf s).toNat)
         case atStart => exact ⟨0, Nat.zero_le _, by go_num, hid (fun i hi => absurd hi (Nat.not_lt_zero _))⟩
         case round =>
          obtain ⟨j, hj, rfl, HJ⟩ := hrel
          by_cases hlt : j < C.dn.length
          ·have hltz : (j : Int) < (C.dn.length : Int) := by omega
           have hk0 : (0 : Int) ≤ (j : Int) := by omega
           obtain ⟨b, off, ha, t, ht, hts, q0⟩ := HD.out.get hlt
           have HRt := hid ht
           have ha2 := hid ha
           clear ht ha
           have HJ1 := hid (fun (h : t.size ≤ 100) => show ∀ i, i < j + 1 → (C.dn.getD i ByteArray.empty).size ≤ 100 from fun i hi => by
            by_cases e : i = j
            ·subst e; rw [HRt.out]; exact h
            ·exact HJ.out i (by omega))
           rw [ha2.out] at c6
           by_cases e1 : 100 < t.size
           ·have h3z : (100 : Int) < (t.size : Int) := by omega
            go_wp2
            go_ret
            exact qb_no BA.out
           ·have h3z : ¬ (100 : Int) < (t.size : Int) := by omega
            have HJ2 := hid (HJ1.out (by omega))
            go_wp2
            go_round
            case rel => exact ⟨j + 1, by omega, by go_num, HJ2⟩
            case measure => simp [intOf]; omega
          ·have hltz : ¬ (j : Int) < (C.dn.length : Int) := by omega
           have HALL4 := hid (show ∀ i, i < C.dn.length → (C.dn.getD i ByteArray.empty).size ≤ 100 from fun i hi => HJ.out i (by omega))
           clear HJ
           go_wp2
           go_loop [5] (fun s => ∃ (j : Nat), j ≤ C.us.length ∧ s = .int .i64 (j : Int) ∧ Hid (∀ i, i < j → (fU C.us i).1.size ≤ 100)) (fun s => C.us.length - (intOf s).toNat)
           case atStart => exact ⟨0, Nat.zero_le _, by go_num, hid (fun i hi => absurd hi (Nat.not_lt_zero _))⟩
           case round =>
            obtain ⟨j, hj, rfl, HJ⟩ := hrel
            by_cases hlt : j < C.us.length
            ·have hltz : (j : Int) < (C.us.length : Int) := by omega
             have hk0 : (0 : Int) ≤ (j : Int) := by omega
             obtain ⟨b, off, ha, q0, _⟩ := HU.out.user hlt
             have ha2 := hid ha
             clear ha
             have HJ1 := hid (fun (h : (fU C.us j).1.size ≤ 100) => show ∀ i, i < j + 1 → (fU C.us i).1.size ≤ 100 from fun i hi => by
              by_cases e : i = j
              ·subst e; exact h
              ·exact HJ.out i (by omega))
             generalize (fU C.us j).1 = t at q0 HJ1
             rw [ha2.out] at c7
             by_cases e1 : 100 < t.size
             ·have h3z : (100 : Int) < (t.size : Int) := by omega
              go_wp2
              go_ret
              exact qb_no BA.out
             ·have h3z : ¬ (100 : Int) < (t.size : Int) := by omega
              have HJ2 := hid (HJ1.out (by omega))
              go_wp2
              go_round
              case rel => exact ⟨j + 1, by omega, by go_num, HJ2⟩
              case measure => simp [intOf]; omega
            ·have hltz : ¬ (j : Int) < (C.us.length : Int) := by omega
             have HALL5 := hid (show ∀ i, i < C.us.length → (fU C.us i).1.size ≤ 100 from fun i hi => HJ.out i (by omega))
             clear HJ
             go_wp2
             go_ret
             refine qb_yes ⟨by omega, by omega, by omega, fun s hs => ?_, by omega, fun s hs => ?_, ⟨by omega, by omega, fun p hp => ?_⟩⟩ BA.out
             ·obtain ⟨i, hi, rfl⟩ := List.getElem_of_mem hs
              rw [getE hi]
              exact Nat.le_trans (HALL3.out i hi) (by decide)
             ·obtain ⟨i, hi, rfl⟩ := List.getElem_of_mem hs
              rw [getE hi]
              exact Nat.le_trans (HALL4.out i hi) (by decide)
             ·obtain ⟨i, hi, rfl⟩ := List.getElem_of_mem hp
              have := HALL5.out i (by omega)
              rw [fU_at hi] at this
              omega
set_option maxHeartbeats 8000000 in
theorem small13 (E : Ew) (a : Aw) (w : World) (h : IsE w E a) : Calls Tryz.prog 13 #[.agg (ecs E a).toArray] w fun e w' => QB (SmZ E) (Below w.heap.size w w') e := by
 have BA := hid ((Below.refl w.heap.size w).alloc (Nat.le_refl _) (.cells (ecs E a).toArray 34))
 have X0 := hid (blk_new w (ecs E a) 34)
 have HC := hid (slight34 E.c a.c _ (h.c.below BA.out))
 have m1 := h.pv.rws.big
 have m2 := h.au.rws.big
 unfold maxLen at m1 m2
 clear h
 generalize hW0 : w.alloc (.cells (ecs E a).toArray 34) = W0 at BA X0 HC
 dsimp only [ecs, z29] at hW0 X0 ⊢
 have y1 := X0.out.cell (i := 1) rfl
 have y2 := X0.out.cell (i := 2) rfl
 have y5 := X0.out.cell (i := 5) rfl
 have y8 := X0.out.cell (i := 8) rfl
 have y9 := X0.out.cell (i := 9) rfl
 have y27 := X0.out.cell (i := 27) rfl
 by_cases h0 : E.pv.length ≤ 60
 ·have h0z : (E.pv.length : Int) ≤ (60 : Int) := by omega
  by_cases h1 : E.au.length ≤ 60
  ·have h1z : (E.au.length : Int) ≤ (60 : Int) := by omega
   by_cases h2 : E.rm.size ≤ 100
   ·have h2z : (E.rm.size : Int) ≤ (100 : Int) := by omega
    by_cases h3 : E.sd.size ≤ 100
    ·have h3z : (E.sd.size : Int) ≤ (100 : Int) := by omega
     by_cases h4 : E.ky.size ≤ 100
     ·have h4z : (E.ky.size : Int) ≤ (100 : Int) := by omega
      by_cases h5 : E.sv.size ≤ 100
      ·have h5z : (E.sv.size : Int) ≤ (100 : Int) := by omega
       go_enter Tryz.func13, Tryz.ntmps13
       go_wp2_with (first
        | (refine load_mid_g (by rfl) 30 _ rfl w.heap.size 10 rfl (ccs E.c a.c) _ (X0.out.mid 10 16) Tryz.underlying30 rfl size29 ?_)
        | (go_at_call 34; (with_reducible refine HC.out.mono ?_); rintro e w1 ⟨q, rfl, hq, hb⟩; have B1 := hid (BA.out.trans (hb.mono BA.out.size)); have Q1 := hid hq; clear hq hb; cases q)
        | fail)
       ·go_ret
        exact qb_no B1.out
       ·go_ret
        exact qb_yes ⟨by omega, by omega, by omega, by omega, by omega, by omega, Q1.out (by trivial)⟩ B1.out
      ·have h5z : ¬ (E.sv.size : Int) ≤ (100 : Int) := by omega
       go_enter Tryz.func13, Tryz.ntmps13
       go_wp2
       go_ret
       exact qb_no BA.out
     ·have h4z : ¬ (E.ky.size : Int) ≤ (100 : Int) := by omega
      go_enter Tryz.func13, Tryz.ntmps13
      go_wp2
      go_ret
      exact qb_no BA.out
    ·have h3z : ¬ (E.sd.size : Int) ≤ (100 : Int) := by omega
     go_enter Tryz.func13, Tryz.ntmps13
     go_wp2
     go_ret
     exact qb_no BA.out
   ·have h2z : ¬ (E.rm.size : Int) ≤ (100 : Int) := by omega
    go_enter Tryz.func13, Tryz.ntmps13
    go_wp2
    go_ret
    exact qb_no BA.out
  ·have h1z : ¬ (E.au.length : Int) ≤ (60 : Int) := by omega
   go_enter Tryz.func13, Tryz.ntmps13
   go_wp2
   go_ret
   exact qb_no BA.out
 ·have h0z : ¬ (E.pv.length : Int) ≤ (60 : Int) := by omega
  go_enter Tryz.func13, Tryz.ntmps13
  go_wp2
  go_ret
  exact qb_no BA.out
end Go.Proofs.YtablocpcgknmaaaGreatDoor
