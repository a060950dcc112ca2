/- The reference of Check. No condition. -/
import Derived.Test.YtablocpcgknmaaaGreatDoorQV4
namespace Go.Proofs.YtablocpcgknmaaaGreatDoor
open Go.Lib (hid)
open Go Go.RowKit
set_option linter.unusedVariables false
set_option linter.unusedSimpArgs false
set_option maxRecDepth 100000

set_option maxHeartbeats 32000000 in
theorem frame47 (E : Ew) (a : Aw) (w : World) (h : IsE w E a) : Calls Tryz.prog 47 #[.agg (ecs E a).toArray] w fun e w' => e = .returned (.int .i64 (frmI E)) ∧ Below w.heap.size w w' := by
 have BA := hid ((Below.refl w.heap.size w).alloc (Nat.le_refl _) (.cells (ecs E a).toArray 34))
 have X0 := hid (blk_new w (ecs E a) 34)
 have HRM := hid h.rm
 have HU := hid (fun y => ruser_any E.sd h.sd y)
 have HK := hid (fun y => key101 E.kd E.ky h.ky y)
 have HP := hid (fun y (hb : Below w.heap.size w y) => rise102 a.pA E.pv.length a.pC E.pv y (h.pv.below hb))
 have HA := hid (fun y (hb : Below w.heap.size w y) => rise102 a.qA E.au.length a.qC E.au y (h.au.below hb))
 have m1 := h.pv.rws.big
 have m2 := h.au.rws.big
 unfold maxLen at m1 m2
 obtain ⟨qs, hqs⟩ : ∃ q, stB E.kd = q := ⟨_, rfl⟩
 have HS := hid (fun y => same_flip (state28 E.kd qs hqs y))
 have HQS := hid hqs
 have y3 := X0.out.cell (i := 3) rfl
 have y4 := X0.out.cell (i := 4) rfl
 have y5 := X0.out.cell (i := 5) rfl
 obtain ⟨r, hr⟩ : ∃ r, frmI E = r := ⟨_, rfl⟩
 have HR := hid hr
 rw [hr]
 unfold frmI at HR
 clear hr h hqs
 generalize hW0 : w.alloc (.cells (ecs E a).toArray 34) = W0 at BA X0 y3 y4 y5
 dsimp only [ecs, z29] at hW0 X0 ⊢
 show Calls Tryz.prog 47 #[.agg #[.int .i64 E.id, .string E.rm, .string E.sd, .int .i64 E.kd, .bool E.st, .string E.ky, .int .i64 E.tm, .int .i64 E.dp, .slice a.pA E.pv.length a.pC, .slice a.qA E.au.length a.qC, .string E.c.tx, .int .i64 E.c.n, .int .i64 E.c.tg, .bool E.c.th, .string E.c.via, .slice a.c.aA E.c.al.length a.c.aC, .slice a.c.dA E.c.dn.length a.c.dC, .slice a.c.uA E.c.us.length a.c.uC, .slice a.c.kA E.c.ks.length a.c.kC, .int .i64 E.c.d, .int .i64 E.c.x3, .int .i64 E.c.x4, .int .i64 E.c.x5, .int .i64 E.c.x6, .int .i64 E.c.x7, .int .i64 E.c.x8, .int .i64 E.hs, .string E.sv, .int .i64 E.sm]] w _
 obtain ⟨b, hb⟩ : ∃ b, (fr1 E || fr2 E) = b := ⟨_, rfl⟩
 have HBQ := hid hb
 replace HR := hid (show (if b = true then 1 else if nmdB E = false then 3 else if fr3 E = true then 2 else refI E.pv E.au E.kd) = r by
  rw [← HR.out, ← hb]
  cases fr1 E <;> cases fr2 E <;> rfl)
 clear hb
 go_enter Tryz.func47, Tryz.ntmps47
 go_upto_region 1 with (fail)
 go_cut [33] from 3 to 33 (fun s wx => s = .bool b ∧ Hid (Below W0.heap.size W0 wx))
 case first =>
  by_cases k1 : E.kd < 1
  ·have z1 : decide (E.kd < 1) = true := decide_eq_true k1
   have HX := hid (show b = true by rw [← HBQ.out]; unfold fr1; rw [z1]; rfl)
   clear k1
   go_quiet (fail)
   go_wp2
   go_meet
   exact ⟨by rw [HX.out], hid (below_drewN (Below.refl _ _) _)⟩
  ·have z1 : decide (E.kd < 1) = false := decide_eq_false k1
   by_cases k2 : 14 < E.kd
   ·have z2 : decide ((14 : Int) < E.kd) = true := decide_eq_true k2
    have HX := hid (show b = true by rw [← HBQ.out]; unfold fr1; rw [z1, z2]; rfl)
    clear k1 k2
    go_quiet (fail)
    go_wp2
    go_meet
    exact ⟨by rw [HX.out], hid (below_drewN (Below.refl _ _) _)⟩
   ·have z2 : decide ((14 : Int) < E.kd) = false := decide_eq_false k2
    have HF1 := hid (show fr1 E = (E.st != qs) by unfold fr1; rw [z1, z2, HQS.out]; rfl)
    cases zs : (E.st != qs)
    ·have zs2 : (E.st == qs) = true := by cases h5 : E.st <;> cases h6 : qs <;> rw [h5, h6] at zs <;> first | rfl | cases zs
     clear k1 k2
     cases c5 : (E.ky.toList == [])
     ·by_cases k2 : E.kd = 2
      ·have z2 : (E.kd == 2) = true := by simpa using k2
       have z2b : (E.kd != 2) = false := by simp [bne, z2]
       have HX := hid (show b = false by rw [← HBQ.out, HF1.out, zs]; unfold fr2 eyB; rw [c5, z2]; rfl)
       clear k2
       go_quiet ((go_at_call 98; (with_reducible exact Calls.quiet_of_same (HS.out _))))
       go_wp2
       go_meet
       exact ⟨by rw [HX.out], hid (below_drewN (Below.refl _ _) _)⟩
      ·have z2 : (E.kd == 2) = false := beq_eq_false_iff_ne.2 k2
       have z2b : (E.kd != 2) = true := by simp [bne, z2]
       by_cases k9 : E.kd = 9
       ·have z9 : (E.kd == 9) = true := by simpa using k9
        have z9b : (E.kd != 9) = false := by simp [bne, z9]
        have HX := hid (show b = false by rw [← HBQ.out, HF1.out, zs]; unfold fr2 eyB; rw [c5, z2, z9]; rfl)
        clear k2 k9
        go_quiet ((go_at_call 98; (with_reducible exact Calls.quiet_of_same (HS.out _))))
        go_wp2
        go_meet
        exact ⟨by rw [HX.out], hid (below_drewN (Below.refl _ _) _)⟩
       ·have z9 : (E.kd == 9) = false := beq_eq_false_iff_ne.2 k9
        have z9b : (E.kd != 9) = true := by simp [bne, z9]
        have HX := hid (show b = true by rw [← HBQ.out, HF1.out, zs]; unfold fr2 eyB; rw [c5, z2, z9]; rfl)
        clear k2 k9
        go_quiet ((go_at_call 98; (with_reducible exact Calls.quiet_of_same (HS.out _))))
        go_wp2
        go_meet
        exact ⟨by rw [HX.out], hid (below_drewN (Below.refl _ _) _)⟩
     ·have HX := hid (show b = false by rw [← HBQ.out, HF1.out, zs]; unfold fr2 eyB; rw [c5]; rfl)
      go_quiet ((go_at_call 98; (with_reducible exact Calls.quiet_of_same (HS.out _))))
      go_wp2
      go_meet
      exact ⟨by rw [HX.out], hid (below_drewN (Below.refl _ _) _)⟩
    ·have zs2 : (E.st == qs) = false := by cases h5 : E.st <;> cases h6 : qs <;> rw [h5, h6] at zs <;> first | rfl | cases zs
     have HX := hid (show b = true by rw [← HBQ.out, HF1.out, zs]; rfl)
     clear k1 k2
     go_quiet ((go_at_call 98; (with_reducible exact Calls.quiet_of_same (HS.out _))))
     go_wp2
     go_meet
     exact ⟨by rw [HX.out], hid (below_drewN (Below.refl _ _) _)⟩
 case rest =>
  obtain ⟨rfl, hBw⟩ := hcut
  have B1 := hid (BA.out.trans (hBw.out.mono BA.out.size))
  have X1 := hid (X0.out.below hBw.out)
  clear HBQ HS HQS hBw y3 y4 y5
  have y1 := X1.out.cell (i := 1) rfl
  have y2 := X1.out.cell (i := 2) rfl
  have y3 := X1.out.cell (i := 3) rfl
  have y5 := X1.out.cell (i := 5) rfl
  have y6 := X1.out.cell (i := 6) rfl
  have y7 := X1.out.cell (i := 7) rfl
  have y8 := X1.out.cell (i := 8) rfl
  have y9 := X1.out.cell (i := 9) rfl
  cases b
  ·replace HR := hid (show (if nmdB E = false then 3 else if fr3 E = true then 2 else refI E.pv E.au E.kd) = r by rw [← HR.out]; exact (if_neg (by decide)).symm)
   cases h1 : I.mkd 33 (bys E.rm)
   ·have h1n := hid h1
    have HNB := hid (show nmdB E = false by unfold nmdB; rw [h1]; rfl)
    clear h1
    have HX := hid (show r = 3 by rw [← HR.out]; exact if_pos HNB.out)
    go_wp2_with (first
     | (go_at_call 99; (with_reducible refine (rroom_no E.rm HRM.out h1n.out _).mono ?_); rintro e w2 ⟨rfl, rfl⟩)
     | fail)
    go_ret
    exact ⟨ret_i HX.out, B1.out⟩
   ·have h1n := hid h1
    cases h2 : I.mkd 64 (bys E.sd)
    ·rw [h2] at HU
     simp only [err_f] at HU
     have HNB := hid (show nmdB E = false by unfold nmdB; rw [h1, h2]; rfl)
     clear h1 h2
     have HX := hid (show r = 3 by rw [← HR.out]; exact if_pos HNB.out)
     go_wp2_with (first
      | (go_at_call 99; (with_reducible refine (rroom_ok E.rm HRM.out h1n.out _).mono ?_); rintro e w2 ⟨rfl, rfl⟩)
      | (go_at_call 100; (with_reducible refine (HU.out _).mono ?_); rintro e w2 ⟨rfl, rfl⟩)
      | fail)
     go_ret
     exact ⟨ret_i HX.out, B1.out⟩
    ·rw [h2] at HU
     simp only [err_t] at HU
     cases h3 : keyB E.kd E.ky
     ·simp only [h3] at HK
      have HNB := hid (show nmdB E = false by unfold nmdB; rw [h1, h2, h3]; rfl)
      clear h1 h2 h3
      have HX := hid (show r = 3 by rw [← HR.out]; exact if_pos HNB.out)
      go_wp2_with (first
       | (go_at_call 99; (with_reducible refine (rroom_ok E.rm HRM.out h1n.out _).mono ?_); rintro e w2 ⟨rfl, rfl⟩)
       | (go_at_call 100; (with_reducible refine (HU.out _).mono ?_); rintro e w2 ⟨rfl, rfl⟩)
       | (go_at_call 101; (with_reducible refine (HK.out _).mono ?_); rintro e w2 ⟨rfl, rfl⟩)
       | fail)
      go_ret
      exact ⟨ret_i HX.out, B1.out⟩
     ·simp only [h3] at HK
      replace HR := hid (show (if fr3 E = true then 2 else refI E.pv E.au E.kd) = r by rw [← HR.out]; exact (if_neg (by unfold nmdB; rw [h1, h2, h3]; decide)).symm)
      clear h1 h2 h3
      go_upto_region 5 with (first
       | (go_at_call 99; (with_reducible refine (rroom_ok E.rm HRM.out h1n.out _).mono ?_); rintro e w2 ⟨rfl, rfl⟩)
       | (go_at_call 100; (with_reducible refine (HU.out _).mono ?_); rintro e w2 ⟨rfl, rfl⟩)
       | (go_at_call 101; (with_reducible refine (HK.out _).mono ?_); rintro e w2 ⟨rfl, rfl⟩)
       | fail)
      by_cases t1 : E.tm < 0
      ·have z1 : decide (E.tm < 0) = true := decide_eq_true t1
       have HX := hid (show r = 2 by rw [← HR.out]; exact if_pos (by unfold fr3; rw [z1]; rfl))
       go_wp2
       go_ret
       exact ⟨ret_i HX.out, B1.out⟩
      ·have z1 : decide (E.tm < 0) = false := decide_eq_false t1
       by_cases t2 : 1000000000 < E.tm
       ·have z2 : decide ((1000000000 : Int) < E.tm) = true := decide_eq_true t2
        have HX := hid (show r = 2 by rw [← HR.out]; exact if_pos (by unfold fr3; rw [z1, z2]; rfl))
        go_wp2
        go_ret
        exact ⟨ret_i HX.out, B1.out⟩
       ·have z2 : decide ((1000000000 : Int) < E.tm) = false := decide_eq_false t2
        by_cases t3 : E.dp < 1
        ·have z3 : decide (E.dp < 1) = true := decide_eq_true t3
         have HX := hid (show r = 2 by rw [← HR.out]; exact if_pos (by unfold fr3; rw [z1, z2, z3]; rfl))
         go_wp2
         go_ret
         exact ⟨ret_i HX.out, B1.out⟩
        ·have z3 : decide (E.dp < 1) = false := decide_eq_false t3
         by_cases t4 : 100000 < E.dp
         ·have z4 : decide ((100000 : Int) < E.dp) = true := decide_eq_true t4
          have HX := hid (show r = 2 by rw [← HR.out]; exact if_pos (by unfold fr3; rw [z1, z2, z3, z4]; rfl))
          go_wp2
          go_ret
          exact ⟨ret_i HX.out, B1.out⟩
         ·have z4 : decide ((100000 : Int) < E.dp) = false := decide_eq_false t4
          replace HR := hid (show refI E.pv E.au E.kd = r by rw [← HR.out]; exact (if_neg (by unfold fr3; rw [z1, z2, z3, z4]; decide)).symm)
          clear t1 t2 t3 t4
          unfold refI at HR
          go_upto_region 7 with (fail)
          clear z1 z2 z3 z4
          by_cases p1 : 10 < E.pv.length
          ·have z1 : (10 : Int) < (E.pv.length : Int) := by omega
           have HX := hid (show r = 7 by rw [← HR.out]; exact if_pos (.inl p1))
           clear HR
           go_wp2_with (first
            | (go_at_call 102; (with_reducible refine (HP.out _ B1.out).mono ?_); rintro e w2 ⟨rfl, hb⟩; have B2 := hid (B1.out.trans (hb.mono B1.out.size)); have X2 := hid (X1.out.below hb); clear hb HP y3 y8 y9; have y3 := X2.out.cell (i := 3) rfl; have y8 := X2.out.cell (i := 8) rfl; have y9 := X2.out.cell (i := 9) rfl)
            | (go_at_call 102; (with_reducible refine (HA.out _ B2.out).mono ?_); rintro e w3 ⟨rfl, hb⟩; have B3 := hid (B2.out.trans (hb.mono B2.out.size)); have X3 := hid (X2.out.below hb); clear hb HA y3 y8 y9; have y3 := X3.out.cell (i := 3) rfl; have y8 := X3.out.cell (i := 8) rfl; have y9 := X3.out.cell (i := 9) rfl)
            | fail)
           go_ret
           exact ⟨ret_i HX.out, B1.out⟩
          ·have z1 : ¬ (10 : Int) < (E.pv.length : Int) := by omega
           by_cases p2 : 8 < E.au.length
           ·have z2 : (8 : Int) < (E.au.length : Int) := by omega
            have HX := hid (show r = 7 by rw [← HR.out]; exact if_pos (.inr p2))
            clear HR
            go_wp2_with (first
             | (go_at_call 102; (with_reducible refine (HP.out _ B1.out).mono ?_); rintro e w2 ⟨rfl, hb⟩; have B2 := hid (B1.out.trans (hb.mono B1.out.size)); have X2 := hid (X1.out.below hb); clear hb HP y3 y8 y9; have y3 := X2.out.cell (i := 3) rfl; have y8 := X2.out.cell (i := 8) rfl; have y9 := X2.out.cell (i := 9) rfl)
             | (go_at_call 102; (with_reducible refine (HA.out _ B2.out).mono ?_); rintro e w3 ⟨rfl, hb⟩; have B3 := hid (B2.out.trans (hb.mono B2.out.size)); have X3 := hid (X2.out.below hb); clear hb HA y3 y8 y9; have y3 := X3.out.cell (i := 3) rfl; have y8 := X3.out.cell (i := 8) rfl; have y9 := X3.out.cell (i := 9) rfl)
             | fail)
            go_ret
            exact ⟨ret_i HX.out, B1.out⟩
           ·have z2 : ¬ (8 : Int) < (E.au.length : Int) := by omega
            have HN := hid (show ¬ (10 < E.pv.length ∨ 8 < E.au.length) from fun h => h.elim p1 p2)
            cases c1 : ris (-1) E.pv
            ·rw [c1] at HR
             simp only [c1] at HP
             clear c1
             have HX := hid (show r = 8 by rw [← HR.out]; exact (if_neg HN.out).trans (if_pos rfl))
             clear HR
             go_wp2_with (first
              | (go_at_call 102; (with_reducible refine (HP.out _ B1.out).mono ?_); rintro e w2 ⟨rfl, hb⟩; have B2 := hid (B1.out.trans (hb.mono B1.out.size)); have X2 := hid (X1.out.below hb); clear hb HP y3 y8 y9; have y3 := X2.out.cell (i := 3) rfl; have y8 := X2.out.cell (i := 8) rfl; have y9 := X2.out.cell (i := 9) rfl)
              | (go_at_call 102; (with_reducible refine (HA.out _ B2.out).mono ?_); rintro e w3 ⟨rfl, hb⟩; have B3 := hid (B2.out.trans (hb.mono B2.out.size)); have X3 := hid (X2.out.below hb); clear hb HA y3 y8 y9; have y3 := X3.out.cell (i := 3) rfl; have y8 := X3.out.cell (i := 8) rfl; have y9 := X3.out.cell (i := 9) rfl)
              | fail)
             go_ret
             exact ⟨ret_i HX.out, B2.out⟩
            ·rw [c1] at HR
             simp only [c1] at HP
             clear c1
             cases c2 : ris (-1) E.au
             ·rw [c2] at HR
              simp only [c2] at HA
              clear c2
              have HX := hid (show r = 8 by rw [← HR.out]; exact (if_neg HN.out).trans (if_pos rfl))
              clear HR
              go_wp2_with (first
               | (go_at_call 102; (with_reducible refine (HP.out _ B1.out).mono ?_); rintro e w2 ⟨rfl, hb⟩; have B2 := hid (B1.out.trans (hb.mono B1.out.size)); have X2 := hid (X1.out.below hb); clear hb HP y3 y8 y9; have y3 := X2.out.cell (i := 3) rfl; have y8 := X2.out.cell (i := 8) rfl; have y9 := X2.out.cell (i := 9) rfl)
               | (go_at_call 102; (with_reducible refine (HA.out _ B2.out).mono ?_); rintro e w3 ⟨rfl, hb⟩; have B3 := hid (B2.out.trans (hb.mono B2.out.size)); have X3 := hid (X2.out.below hb); clear hb HA y3 y8 y9; have y3 := X3.out.cell (i := 3) rfl; have y8 := X3.out.cell (i := 8) rfl; have y9 := X3.out.cell (i := 9) rfl)
               | fail)
              go_ret
              exact ⟨ret_i HX.out, B3.out⟩
             ·rw [c2] at HR
              simp only [c2] at HA
              clear c2
              have HR2 := hid (show (if E.pv.length = 0 ∧ ¬ E.kd = 1 then 9 else if E.kd = 1 ∧ 0 < E.pv.length + E.au.length then 6 else 0) = r by rw [← HR.out]; exact ((if_neg HN.out).trans (if_neg (by decide))).symm)
              replace HR := HR2
              clear HN HR2
              by_cases k1 : E.kd = 1
              ·have q1 : (E.kd == 1) = true := by simpa using k1
               have q1b : (E.kd != 1) = false := by simp [bne, q1]
               have HK1 := hid k1
               by_cases p3 : E.pv.length = 0
               ·have z3 : ((E.pv.length : Int) == 0) = true := by simpa using p3
                have z5 : ¬ (0 : Int) < (E.pv.length : Int) := by omega
                have z5b : ¬ 0 < E.pv.length := by omega
                by_cases p4 : E.au.length = 0
                ·have z4 : ¬ (0 : Int) < (E.au.length : Int) := by omega
                 have z4b : ¬ 0 < E.au.length := by omega
                 have HX := hid (show r = 0 by rw [← HR.out]; exact (if_neg (fun h => h.2 HK1.out)).trans (if_neg (fun h => by omega)))
                 clear HR k1 p3 p4
                 go_wp2_with (first
                  | (go_at_call 102; (with_reducible refine (HP.out _ B1.out).mono ?_); rintro e w2 ⟨rfl, hb⟩; have B2 := hid (B1.out.trans (hb.mono B1.out.size)); have X2 := hid (X1.out.below hb); clear hb HP y3 y8 y9; have y3 := X2.out.cell (i := 3) rfl; have y8 := X2.out.cell (i := 8) rfl; have y9 := X2.out.cell (i := 9) rfl)
                  | (go_at_call 102; (with_reducible refine (HA.out _ B2.out).mono ?_); rintro e w3 ⟨rfl, hb⟩; have B3 := hid (B2.out.trans (hb.mono B2.out.size)); have X3 := hid (X2.out.below hb); clear hb HA y3 y8 y9; have y3 := X3.out.cell (i := 3) rfl; have y8 := X3.out.cell (i := 8) rfl; have y9 := X3.out.cell (i := 9) rfl)
                  | fail)
                 go_ret
                 exact ⟨ret_i HX.out, B3.out⟩
                ·have z4 : (0 : Int) < (E.au.length : Int) := by omega
                 have z4b : 0 < E.au.length := by omega
                 have HX := hid (show r = 6 by rw [← HR.out]; exact (if_neg (fun h => h.2 HK1.out)).trans (if_pos ⟨HK1.out, by omega⟩))
                 clear HR k1 p3 p4
                 go_wp2_with (first
                  | (go_at_call 102; (with_reducible refine (HP.out _ B1.out).mono ?_); rintro e w2 ⟨rfl, hb⟩; have B2 := hid (B1.out.trans (hb.mono B1.out.size)); have X2 := hid (X1.out.below hb); clear hb HP y3 y8 y9; have y3 := X2.out.cell (i := 3) rfl; have y8 := X2.out.cell (i := 8) rfl; have y9 := X2.out.cell (i := 9) rfl)
                  | (go_at_call 102; (with_reducible refine (HA.out _ B2.out).mono ?_); rintro e w3 ⟨rfl, hb⟩; have B3 := hid (B2.out.trans (hb.mono B2.out.size)); have X3 := hid (X2.out.below hb); clear hb HA y3 y8 y9; have y3 := X3.out.cell (i := 3) rfl; have y8 := X3.out.cell (i := 8) rfl; have y9 := X3.out.cell (i := 9) rfl)
                  | fail)
                 go_ret
                 exact ⟨ret_i HX.out, B3.out⟩
               ·have z3 : ((E.pv.length : Int) == 0) = false := beq_eq_false_iff_ne.2 (by omega)
                have z5 : (0 : Int) < (E.pv.length : Int) := by omega
                have z5b : 0 < E.pv.length := by omega
                have HX := hid (show r = 6 by rw [← HR.out]; exact (if_neg (fun h => h.2 HK1.out)).trans (if_pos ⟨HK1.out, by omega⟩))
                clear HR k1 p3
                go_wp2_with (first
                 | (go_at_call 102; (with_reducible refine (HP.out _ B1.out).mono ?_); rintro e w2 ⟨rfl, hb⟩; have B2 := hid (B1.out.trans (hb.mono B1.out.size)); have X2 := hid (X1.out.below hb); clear hb HP y3 y8 y9; have y3 := X2.out.cell (i := 3) rfl; have y8 := X2.out.cell (i := 8) rfl; have y9 := X2.out.cell (i := 9) rfl)
                 | (go_at_call 102; (with_reducible refine (HA.out _ B2.out).mono ?_); rintro e w3 ⟨rfl, hb⟩; have B3 := hid (B2.out.trans (hb.mono B2.out.size)); have X3 := hid (X2.out.below hb); clear hb HA y3 y8 y9; have y3 := X3.out.cell (i := 3) rfl; have y8 := X3.out.cell (i := 8) rfl; have y9 := X3.out.cell (i := 9) rfl)
                 | fail)
                go_ret
                exact ⟨ret_i HX.out, B3.out⟩
              ·have q1 : (E.kd == 1) = false := beq_eq_false_iff_ne.2 k1
               have q1b : (E.kd != 1) = true := by simp [bne, q1]
               have HK1 := hid k1
               by_cases p3 : E.pv.length = 0
               ·have z3 : ((E.pv.length : Int) == 0) = true := by simpa using p3
                have HX := hid (show r = 9 by rw [← HR.out]; exact if_pos ⟨p3, HK1.out⟩)
                clear HR k1 p3
                go_wp2_with (first
                 | (go_at_call 102; (with_reducible refine (HP.out _ B1.out).mono ?_); rintro e w2 ⟨rfl, hb⟩; have B2 := hid (B1.out.trans (hb.mono B1.out.size)); have X2 := hid (X1.out.below hb); clear hb HP y3 y8 y9; have y3 := X2.out.cell (i := 3) rfl; have y8 := X2.out.cell (i := 8) rfl; have y9 := X2.out.cell (i := 9) rfl)
                 | (go_at_call 102; (with_reducible refine (HA.out _ B2.out).mono ?_); rintro e w3 ⟨rfl, hb⟩; have B3 := hid (B2.out.trans (hb.mono B2.out.size)); have X3 := hid (X2.out.below hb); clear hb HA y3 y8 y9; have y3 := X3.out.cell (i := 3) rfl; have y8 := X3.out.cell (i := 8) rfl; have y9 := X3.out.cell (i := 9) rfl)
                 | fail)
                go_ret
                exact ⟨ret_i HX.out, B3.out⟩
               ·have z3 : ((E.pv.length : Int) == 0) = false := beq_eq_false_iff_ne.2 (by omega)
                have HX := hid (show r = 0 by rw [← HR.out]; exact (if_neg (fun h => p3 h.1)).trans (if_neg (fun h => HK1.out h.1)))
                clear HR k1 p3
                go_wp2_with (first
                 | (go_at_call 102; (with_reducible refine (HP.out _ B1.out).mono ?_); rintro e w2 ⟨rfl, hb⟩; have B2 := hid (B1.out.trans (hb.mono B1.out.size)); have X2 := hid (X1.out.below hb); clear hb HP y3 y8 y9; have y3 := X2.out.cell (i := 3) rfl; have y8 := X2.out.cell (i := 8) rfl; have y9 := X2.out.cell (i := 9) rfl)
                 | (go_at_call 102; (with_reducible refine (HA.out _ B2.out).mono ?_); rintro e w3 ⟨rfl, hb⟩; have B3 := hid (B2.out.trans (hb.mono B2.out.size)); have X3 := hid (X2.out.below hb); clear hb HA y3 y8 y9; have y3 := X3.out.cell (i := 3) rfl; have y8 := X3.out.cell (i := 8) rfl; have y9 := X3.out.cell (i := 9) rfl)
                 | fail)
                go_ret
                exact ⟨ret_i HX.out, B3.out⟩
  ·have HX := hid (show r = 1 by rw [← HR.out]; exact if_pos rfl)
   go_wp2
   go_ret
   exact ⟨ret_i HX.out, B1.out⟩

set_option maxHeartbeats 8000000 in
theorem rcheck16 (E : Ew) (a : Aw) (w : World) (h : IsE w E a) : Calls Tryz.prog 16 #[.agg (ecs E a).toArray] w fun e w' => e = .returned (.int .i64 (chk7 E)) ∧ Below w.heap.size w w' := by
 have BA := hid ((Below.refl w.heap.size w).alloc (Nat.le_refl _) (.cells #[.int .i64 E.id, .string E.rm, .string E.sd, .int .i64 E.kd, .bool E.st, .string E.ky, .int .i64 E.tm, .int .i64 E.dp, .slice a.pA E.pv.length a.pC, .slice a.qA E.au.length a.qC, .string E.c.tx, .int .i64 E.c.n, .int .i64 E.c.tg, .bool E.c.th, .string E.c.via, .slice a.c.aA E.c.al.length a.c.aC, .slice a.c.dA E.c.dn.length a.c.dC, .slice a.c.uA E.c.us.length a.c.uC, .slice a.c.kA E.c.ks.length a.c.kC, .int .i64 E.c.d, .int .i64 E.c.x3, .int .i64 E.c.x4, .int .i64 E.c.x5, .int .i64 E.c.x6, .int .i64 E.c.x7, .int .i64 E.c.x8, .int .i64 E.hs, .string E.sv, .int .i64 E.sm] 34))
 have X0 := hid (blk_new w [.int .i64 E.id, .string E.rm, .string E.sd, .int .i64 E.kd, .bool E.st, .string E.ky, .int .i64 E.tm, .int .i64 E.dp, .slice a.pA E.pv.length a.pC, .slice a.qA E.au.length a.qC, .string E.c.tx, .int .i64 E.c.n, .int .i64 E.c.tg, .bool E.c.th, .string E.c.via, .slice a.c.aA E.c.al.length a.c.aC, .slice a.c.dA E.c.dn.length a.c.dC, .slice a.c.uA E.c.us.length a.c.uC, .slice a.c.kA E.c.ks.length a.c.kC, .int .i64 E.c.d, .int .i64 E.c.x3, .int .i64 E.c.x4, .int .i64 E.c.x5, .int .i64 E.c.x6, .int .i64 E.c.x7, .int .i64 E.c.x8, .int .i64 E.hs, .string E.sv, .int .i64 E.sm] 34)
 have HF := hid (fun y (hb : Below w.heap.size w y) => frame47 E a y (h.below hb))
 have HC := hid (fun y (hb : Below w.heap.size w y) => rcheck15 E.kd E.c a.c y (h.c.below hb))
 have HR := hid (show chk7 E = if frmI E = 0 then rchk E.kd E.c else frmI E from rfl)
 generalize chk7 E = r at HR ⊢
 generalize frmI E = f at HR HF
 clear h
 show Calls Tryz.prog 16 #[.agg #[.int .i64 E.id, .string E.rm, .string E.sd, .int .i64 E.kd, .bool E.st, .string E.ky, .int .i64 E.tm, .int .i64 E.dp, .slice a.pA E.pv.length a.pC, .slice a.qA E.au.length a.qC, .string E.c.tx, .int .i64 E.c.n, .int .i64 E.c.tg, .bool E.c.th, .string E.c.via, .slice a.c.aA E.c.al.length a.c.aC, .slice a.c.dA E.c.dn.length a.c.dC, .slice a.c.uA E.c.us.length a.c.uC, .slice a.c.kA E.c.ks.length a.c.kC, .int .i64 E.c.d, .int .i64 E.c.x3, .int .i64 E.c.x4, .int .i64 E.c.x5, .int .i64 E.c.x6, .int .i64 E.c.x7, .int .i64 E.c.x8, .int .i64 E.hs, .string E.sv, .int .i64 E.sm]] w _
 by_cases hf0 : f = 0
 ·subst hf0
  have HX := hid (show r = rchk E.kd E.c by rw [HR.out]; exact if_pos rfl)
  go_enter Tryz.func16, Tryz.ntmps16
  go_wp2_with (first
   | (go_at_call 47; (with_reducible refine (HF.out _ BA.out).mono ?_); rintro e w1 ⟨rfl, hb⟩; have B1 := hid (BA.out.trans (hb.mono BA.out.size)); have X1 := hid (X0.out.below hb); clear hb; have y3 := X1.out.cell (i := 3) rfl)
   | (refine wpList_load_mid rfl 34 _ rfl w.heap.size 0 rfl (ecs E a) _ X0.out.range Tryz.underlying34 rfl size34 ?_)
   | (refine wpList_load_mid rfl 30 _ rfl w.heap.size 10 rfl (ccs E.c a.c) _ (X1.out.mid 10 16) Tryz.underlying30 rfl size29 ?_)
   | (go_at_call 48; (with_reducible refine (HC.out _ B1.out).mono ?_); rintro e w2 ⟨rfl, hb⟩; have B2 := hid (B1.out.trans (hb.mono B1.out.size)); clear hb)
   | fail)
  go_ret
  exact ⟨ret_i HX.out, B2.out⟩
 ·have HX := hid (show r = f by rw [HR.out]; exact if_neg hf0)
  have z0 : (f == 0) = false := beq_eq_false_iff_ne.2 hf0
  have z0b : (f != 0) = true := by simp [bne, z0]
  clear hf0
  go_enter Tryz.func16, Tryz.ntmps16
  go_wp2_with (first
   | (go_at_call 47; (with_reducible refine (HF.out _ BA.out).mono ?_); rintro e w1 ⟨rfl, hb⟩; have B1 := hid (BA.out.trans (hb.mono BA.out.size)); have X1 := hid (X0.out.below hb); clear hb; have y3 := X1.out.cell (i := 3) rfl)
   | (refine wpList_load_mid rfl 34 _ rfl w.heap.size 0 rfl (ecs E a) _ X0.out.range Tryz.underlying34 rfl size34 ?_)
   | fail)
  go_ret
  exact ⟨ret_i HX.out, B1.out⟩
end Go.Proofs.YtablocpcgknmaaaGreatDoor
