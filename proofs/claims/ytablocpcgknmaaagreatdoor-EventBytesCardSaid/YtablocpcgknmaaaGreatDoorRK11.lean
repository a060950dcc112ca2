/- Equality of power levels (reference). No condition. -/
import Derived.Test.YtablocpcgknmaaaGreatDoorRPm
import Derived.Test.YtablocpcgknmaaaGreatDoorRK10
namespace Go.Proofs.YtablocpcgknmaaaGreatDoor
open Go.Lib (hid)
open Go Go.RowKit
set_option linter.unusedVariables false
set_option linter.unusedSimpArgs false
set_option maxRecDepth 100000

set_option maxHeartbeats 16000000 in
theorem rsame57 (us : List (ByteArray × Int)) (ks : List (Int × Int)) (d x3 x4 x5 x6 x7 x8 : Int) (uA : Option Addr) (uC : Nat) (kA : Option Addr) (kC : Nat) (us' : List (ByteArray × Int)) (ks' : List (Int × Int)) (d' x3' x4' x5' x6' x7' x8' : Int) (uA' : Option Addr) (uC' : Nat) (kA' : Option Addr) (kC' : Nat) (w : World) (h : IsL w ⟨us, ks, d, x3, x4, x5, x6, x7, x8⟩ uA uC kA kC) (h' : IsL w ⟨us', ks', d', x3', x4', x5', x6', x7', x8'⟩ uA' uC' kA' kC') : Calls Tryz.prog 60 #[.agg #[.slice uA us.length uC, .slice kA ks.length kC, .int .i64 d, .int .i64 x3, .int .i64 x4, .int .i64 x5, .int .i64 x6, .int .i64 x7, .int .i64 x8], .agg #[.slice uA' us'.length uC', .slice kA' ks'.length kC', .int .i64 d', .int .i64 x3', .int .i64 x4', .int .i64 x5', .int .i64 x6', .int .i64 x7', .int .i64 x8']] w fun e w' => e = .returned (.bool (sameL us us' ks ks' [d, x3, x4, x5, x6, x7, x8] [d', x3', x4', x5', x6', x7', x8'])) ∧ Below w.heap.size w w' := by
 have BW := hid (((Below.refl w.heap.size w).alloc (Nat.le_refl _) (.cells #[.slice uA us.length uC, .slice kA ks.length kC, .int .i64 d, .int .i64 x3, .int .i64 x4, .int .i64 x5, .int .i64 x6, .int .i64 x7, .int .i64 x8] 28)).alloc (by simp) (.cells #[.slice uA' us'.length uC', .slice kA' ks'.length kC', .int .i64 d', .int .i64 x3', .int .i64 x4', .int .i64 x5', .int .i64 x6', .int .i64 x7', .int .i64 x8'] 28))
 have X1 := hid ((blk_new w [.slice uA us.length uC, .slice kA ks.length kC, .int .i64 d, .int .i64 x3, .int .i64 x4, .int .i64 x5, .int .i64 x6, .int .i64 x7, .int .i64 x8] 28).alloc (.cells #[.slice uA' us'.length uC', .slice kA' ks'.length kC', .int .i64 d', .int .i64 x3', .int .i64 x4', .int .i64 x5', .int .i64 x6', .int .i64 x7', .int .i64 x8'] 28))
 have X2 := hid (blk_new2 w (.cells #[.slice uA us.length uC, .slice kA ks.length kC, .int .i64 d, .int .i64 x3, .int .i64 x4, .int .i64 x5, .int .i64 x6, .int .i64 x7, .int .i64 x8] 28) [.slice uA' us'.length uC', .slice kA' ks'.length kC', .int .i64 d', .int .i64 x3', .int .i64 x4', .int .i64 x5', .int .i64 x6', .int .i64 x7', .int .i64 x8'] 28)
 have Hu1 := hid h.us
 have Hu2 := hid h'.us
 have Hk1 := hid h.ks
 have Hk2 := hid h'.ks
 have b1 := h.us.big
 have b2 := h'.us.big
 have b3 := h.ks.big
 have b4 := h'.ks.big
 unfold maxLen at b1 b2 b3 b4
 dsimp only at Hu1 Hu2 Hk1 Hk2 b1 b2 b3 b4
 have HC := hid (show sameL us us' ks ks' [d, x3, x4, x5, x6, x7, x8] [d', x3', x4', x5', x6', x7', x8'] = (decide (us = us') && (decide (ks = ks') && sameN [d, x3, x4, x5, x6, x7, x8] [d', x3', x4', x5', x6', x7', x8'])) from rfl)
 generalize sameL us us' ks ks' [d, x3, x4, x5, x6, x7, x8] [d', x3', x4', x5', x6', x7', x8'] = r at HC ⊢
 have HQ1 := hid (fun (e : ¬ us = us') => HC.out.trans (by rw [decide_eq_false e, Bool.false_and]))
 have HQ2 := hid (fun (e : ¬ ks = ks') => HC.out.trans (by rw [decide_eq_false e, Bool.false_and, Bool.and_false]))
 have HQ3 := hid (fun (e : us = us') (e2 : ks = ks') => HC.out.trans (by rw [decide_eq_true e, decide_eq_true e2, Bool.true_and, Bool.true_and]))
 clear h h' HC
 have y10 := X1.out.cell (i := 0) rfl
 have y20 := X2.out.cell (i := 0) rfl
 have y11 := X1.out.cell (i := 1) rfl
 have y21 := X2.out.cell (i := 1) rfl
 by_cases hu : us.length = us'.length
 ·by_cases hk' : ks.length = ks'.length
  ·have f1 : ((us.length : Int) == (us'.length : Int)) = true := beq_iff_eq.2 (by omega)
   have f2 : ((ks.length : Int) == (ks'.length : Int)) = true := beq_iff_eq.2 (by omega)
   have hu1 : us.length ≤ us'.length := by omega
   have hu2 : us'.length ≤ us.length := by omega
   have hk1 : ks.length ≤ ks'.length := by omega
   have hk2 : ks'.length ≤ ks.length := by omega
   clear hu hk'
   go_enter Tryz.func60, Tryz.ntmps60
   go_wp2
   go_loopg [5] us.length (fun gg s wr => ∃ (k : Nat), k ≤ us.length ∧ us.length - k ≤ gg ∧ s = .int .i64 (k : Int) ∧ Hid (∀ j, j < k → fU us j = fU us' j) ∧ Hid (Below w.heap.size w wr) ∧ Hid (Blk wr w.heap.size [.slice uA us.length uC, .slice kA ks.length kC, .int .i64 d, .int .i64 x3, .int .i64 x4, .int .i64 x5, .int .i64 x6, .int .i64 x7, .int .i64 x8] 28) ∧ Hid (Blk wr (w.heap.size + 1) [.slice uA' us'.length uC', .slice kA' ks'.length kC', .int .i64 d', .int .i64 x3', .int .i64 x4', .int .i64 x5', .int .i64 x6', .int .i64 x7', .int .i64 x8'] 28))
   case atStart => exact ⟨0, Nat.zero_le _, by omega, by go_num, hid (fun j hj => by omega), BW, X1, X2⟩
   case round =>
    clear BW X1 X2 y10 y20 y11 y21
    obtain ⟨k, hk, hg, rfl, HO, BW, X1, X2⟩ := hrel
    have yA := X1.out.cell (i := 0) rfl
    have yB := X2.out.cell (i := 0) rfl
    by_cases hlt : k < us.length
    ·have hltz : (k : Int) < (us.length : Int) := by omega
     have hltz2 : (k : Int) < (us'.length : Int) := by omega
     have hk0 : (0 : Int) ≤ (k : Int) := by omega
     obtain ⟨b1, o1, rfl, p0, p1⟩ := (Hu1.out.below BW.out).user hlt
     obtain ⟨b2, o2, rfl, r0, r1⟩ := (Hu2.out.below BW.out).user (show k < us'.length by omega)
     have HNx := hid (fun (e : fU us k = fU us' k) => show ∀ j, j < k + 1 → fU us j = fU us' j from fun j hj => by
      rcases Nat.lt_or_ge j k with h | h
      ·exact HO.out j h
      ·rw [show j = k by omega]; exact e)
     have HNe := hid (fun (e : ¬ fU us k = fU us' k) => HQ1.out (fun e2 => e (by rw [e2])))
     generalize fU us k = pa at p0 p1 HNx HNe
     generalize fU us' k = pb at r0 r1 HNx HNe
     obtain ⟨u1, m1⟩ := pa
     obtain ⟨u2, m2⟩ := pb
     dsimp only at p0 p1 r0 r1 HNx HNe
     by_cases e1 : u1 = u2
     ·have z1 : (u1.toList == u2.toList) = true := by rw [e1]; exact beq_self_eq_true _
      by_cases e2 : m1 = m2
      ·have HO2 := hid (HNx.out (by rw [e1, e2]))
       clear HNx HNe
       subst e2
       clear e1
       go_wp2
       go_quiet (fail)
       go_wp2
       go_roundg (us.length - (k + 1))
       case measure => omega
       case rel => exact ⟨k + 1, by omega, by omega, by go_num, HO2, hid (bel_dn BW.out _), hid (blk_dn X1.out _), hid (blk_dn X2.out _)⟩
      ·have y2 : (m1 == m2) = false := by simpa using e2
       have y2b : (m1 != m2) = true := by simpa using e2
       have HE := hid (HNe.out (fun e => e2 (congrArg Prod.snd e)))
       clear HNx HNe e2
       clear e1
       go_wp2
       go_quiet (fail)
       go_wp2
       go_ret
       exact ⟨ret_b HE.out, bel_dn BW.out _⟩
     ·have z1 : (u1.toList == u2.toList) = false := beq_eq_false_iff_ne.2 (fun e => e1 (eq_of_toList e))
      have HE := hid (HNe.out (fun e => e1 (congrArg Prod.fst e)))
      clear HNx HNe e1
      go_wp2
      go_quiet (fail)
      go_wp2
      go_ret
      exact ⟨ret_b HE.out, bel_dn BW.out _⟩
    ·have hltz : ¬ (k : Int) < (us.length : Int) := by omega
     have HEq := hid (extU (by omega) (fun j hj => HO.out j (by omega)) : us = us')
     have HEu := HEq
     have HQ2' := hid (fun (e : ¬ ks = ks') => HQ2.out e)
     go_wp2
     go_loopg [6] ks.length (fun gg s wr => ∃ (k : Nat), k ≤ ks.length ∧ ks.length - k ≤ gg ∧ s = .int .i64 (k : Int) ∧ Hid (∀ j, j < k → fK ks j = fK ks' j) ∧ Hid (Below w.heap.size w wr) ∧ Hid (Blk wr w.heap.size [.slice uA us.length uC, .slice kA ks.length kC, .int .i64 d, .int .i64 x3, .int .i64 x4, .int .i64 x5, .int .i64 x6, .int .i64 x7, .int .i64 x8] 28) ∧ Hid (Blk wr (w.heap.size + 1) [.slice uA' us'.length uC', .slice kA' ks'.length kC', .int .i64 d', .int .i64 x3', .int .i64 x4', .int .i64 x5', .int .i64 x6', .int .i64 x7', .int .i64 x8'] 28))
     case atStart => exact ⟨0, Nat.zero_le _, by omega, by go_num, hid (fun j hj => by omega), BW, X1, X2⟩
     case round =>
      clear BW X1 X2 yA yB
      obtain ⟨k, hk, hg, rfl, HO, BW, X1, X2⟩ := hrel
      have yA := X1.out.cell (i := 1) rfl
      have yB := X2.out.cell (i := 1) rfl
      by_cases hlt : k < ks.length
      ·have hltz : (k : Int) < (ks.length : Int) := by omega
       have hltz2 : (k : Int) < (ks'.length : Int) := by omega
       have hk0 : (0 : Int) ≤ (k : Int) := by omega
       obtain ⟨b1, o1, rfl, p0, p1⟩ := (Hk1.out.below BW.out).kind hlt
       obtain ⟨b2, o2, rfl, r0, r1⟩ := (Hk2.out.below BW.out).kind (show k < ks'.length by omega)
       have HNx := hid (fun (e : fK ks k = fK ks' k) => show ∀ j, j < k + 1 → fK ks j = fK ks' j from fun j hj => by
        rcases Nat.lt_or_ge j k with h | h
        ·exact HO.out j h
        ·rw [show j = k by omega]; exact e)
       have HNe := hid (fun (e : ¬ fK ks k = fK ks' k) => HQ2'.out (fun e2 => e (by rw [e2])))
       generalize fK ks k = pa at p0 p1 HNx HNe
       generalize fK ks' k = pb at r0 r1 HNx HNe
       obtain ⟨u1, m1⟩ := pa
       obtain ⟨u2, m2⟩ := pb
       dsimp only at p0 p1 r0 r1 HNx HNe
       by_cases e1 : u1 = u2
       ·have z1 : True := trivial
        by_cases e2 : m1 = m2
        ·have HO2 := hid (HNx.out (by rw [e1, e2]))
         clear HNx HNe
         subst e2
         subst e1
         go_wp2
         go_quiet (fail)
         go_wp2
         go_roundg (ks.length - (k + 1))
         case measure => omega
         case rel => exact ⟨k + 1, by omega, by omega, by go_num, HO2, hid (bel_dn BW.out _), hid (blk_dn X1.out _), hid (blk_dn X2.out _)⟩
        ·have y2 : (m1 == m2) = false := by simpa using e2
         have y2b : (m1 != m2) = true := by simpa using e2
         have HE := hid (HNe.out (fun e => e2 (congrArg Prod.snd e)))
         clear HNx HNe e2
         subst e1
         go_wp2
         go_quiet (fail)
         go_wp2
         go_ret
         exact ⟨ret_b HE.out, bel_dn BW.out _⟩
       ·have z1 : (u1 == u2) = false := by simpa using e1
        have z1b : (u1 != u2) = true := by simpa using e1
        have HE := hid (HNe.out (fun e => e1 (congrArg Prod.fst e)))
        clear HNx HNe e1
        go_wp2
        go_quiet (fail)
        go_wp2
        go_ret
        exact ⟨ret_b HE.out, bel_dn BW.out _⟩
      ·have hltz : ¬ (k : Int) < (ks.length : Int) := by omega
       have HEq := hid (extK (by omega) (fun j hj => HO.out j (by omega)) : ks = ks')
       have HQN := hid (HQ3.out HEu.out HEq.out)
       have c2 := X1.out.cell (i := 2) rfl
       have g2 := X2.out.cell (i := 2) rfl
       have c3 := X1.out.cell (i := 3) rfl
       have g3 := X2.out.cell (i := 3) rfl
       have c4 := X1.out.cell (i := 4) rfl
       have g4 := X2.out.cell (i := 4) rfl
       have c5 := X1.out.cell (i := 5) rfl
       have g5 := X2.out.cell (i := 5) rfl
       have c6 := X1.out.cell (i := 6) rfl
       have g6 := X2.out.cell (i := 6) rfl
       have c7 := X1.out.cell (i := 7) rfl
       have g7 := X2.out.cell (i := 7) rfl
       have c8 := X1.out.cell (i := 8) rfl
       have g8 := X2.out.cell (i := 8) rfl
       by_cases n0 : d = d'
       ·subst n0
        by_cases n1 : x3 = x3'
        ·subst n1
         by_cases n2 : x4 = x4'
         ·subst n2
          by_cases n3 : x5 = x5'
          ·subst n3
           by_cases n4 : x6 = x6'
           ·subst n4
            by_cases n5 : x7 = x7'
            ·subst n5
             by_cases n6 : x8 = x8'
             ·subst n6
              have HE := hid (HQN.out.trans (show sameN [d, x3, x4, x5, x6, x7, x8] [d, x3, x4, x5, x6, x7, x8] = true by simp only [sameN, decide_true, Bool.and_self]))
              clear HQN
              go_wp2
              go_ret
              exact ⟨ret_b HE.out, BW.out⟩
             ·have e6 : (x8 == x8') = false := by simpa using n6
              have eb6 : (x8 != x8') = true := by simpa using n6
              have HE := hid (HQN.out.trans (show sameN [d, x3, x4, x5, x6, x7, x8] [d, x3, x4, x5, x6, x7, x8'] = false by simp only [sameN, decide_eq_false n6, Bool.false_and, Bool.and_false]))
              clear HQN n6
              go_wp2
              go_ret
              exact ⟨ret_b HE.out, BW.out⟩
            ·have e5 : (x7 == x7') = false := by simpa using n5
             have eb5 : (x7 != x7') = true := by simpa using n5
             have HE := hid (HQN.out.trans (show sameN [d, x3, x4, x5, x6, x7, x8] [d, x3, x4, x5, x6, x7', x8'] = false by simp only [sameN, decide_eq_false n5, Bool.false_and, Bool.and_false]))
             clear HQN n5
             go_wp2
             go_ret
             exact ⟨ret_b HE.out, BW.out⟩
           ·have e4 : (x6 == x6') = false := by simpa using n4
            have eb4 : (x6 != x6') = true := by simpa using n4
            have HE := hid (HQN.out.trans (show sameN [d, x3, x4, x5, x6, x7, x8] [d, x3, x4, x5, x6', x7', x8'] = false by simp only [sameN, decide_eq_false n4, Bool.false_and, Bool.and_false]))
            clear HQN n4
            go_wp2
            go_ret
            exact ⟨ret_b HE.out, BW.out⟩
          ·have e3 : (x5 == x5') = false := by simpa using n3
           have eb3 : (x5 != x5') = true := by simpa using n3
           have HE := hid (HQN.out.trans (show sameN [d, x3, x4, x5, x6, x7, x8] [d, x3, x4, x5', x6', x7', x8'] = false by simp only [sameN, decide_eq_false n3, Bool.false_and, Bool.and_false]))
           clear HQN n3
           go_wp2
           go_ret
           exact ⟨ret_b HE.out, BW.out⟩
         ·have e2 : (x4 == x4') = false := by simpa using n2
          have eb2 : (x4 != x4') = true := by simpa using n2
          have HE := hid (HQN.out.trans (show sameN [d, x3, x4, x5, x6, x7, x8] [d, x3, x4', x5', x6', x7', x8'] = false by simp only [sameN, decide_eq_false n2, Bool.false_and, Bool.and_false]))
          clear HQN n2
          go_wp2
          go_ret
          exact ⟨ret_b HE.out, BW.out⟩
        ·have e1 : (x3 == x3') = false := by simpa using n1
         have eb1 : (x3 != x3') = true := by simpa using n1
         have HE := hid (HQN.out.trans (show sameN [d, x3, x4, x5, x6, x7, x8] [d, x3', x4', x5', x6', x7', x8'] = false by simp only [sameN, decide_eq_false n1, Bool.false_and, Bool.and_false]))
         clear HQN n1
         go_wp2
         go_ret
         exact ⟨ret_b HE.out, BW.out⟩
       ·have e0 : (d == d') = false := by simpa using n0
        have eb0 : (d != d') = true := by simpa using n0
        have HE := hid (HQN.out.trans (show sameN [d, x3, x4, x5, x6, x7, x8] [d', x3', x4', x5', x6', x7', x8'] = false by simp only [sameN, decide_eq_false n0, Bool.false_and, Bool.and_false]))
        clear HQN n0
        go_wp2
        go_ret
        exact ⟨ret_b HE.out, BW.out⟩
  ·have f1 : ((us.length : Int) == (us'.length : Int)) = true := beq_iff_eq.2 (by omega)
   have f2 : ((ks.length : Int) == (ks'.length : Int)) = false := beq_eq_false_iff_ne.2 (by omega)
   have f2b : ((ks.length : Int) != (ks'.length : Int)) = true := bne_iff_ne.2 (by omega)
   have f2c : ¬ (ks.length : Int) = (ks'.length : Int) := by omega
   have HE := hid (HQ2.out (fun e => hk' (by rw [e])))
   clear hu hk'
   go_enter Tryz.func60, Tryz.ntmps60
   go_wp2
   all_goals go_ret
   all_goals exact ⟨ret_b HE.out, BW.out⟩
 ·have f1 : ((us.length : Int) == (us'.length : Int)) = false := beq_eq_false_iff_ne.2 (by omega)
  have HE := hid (HQ1.out (fun e => hu (by rw [e])))
  clear hu
  go_enter Tryz.func60, Tryz.ntmps60
  go_wp2
  go_ret
  exact ⟨ret_b HE.out, BW.out⟩
end Go.Proofs.YtablocpcgknmaaaGreatDoor
