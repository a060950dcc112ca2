/- Check. No condition. -/
import Derived.Test.YtablocpcgknmaaaGreatDoorRV3
import Derived.Test.YtablocpcgknmaaaGreatDoorRK18
namespace Go.Proofs.YtablocpcgknmaaaGreatDoor
open Go.Lib (hid)
open Go Go.RowKit
set_option linter.unusedVariables false
set_option linter.unusedSimpArgs false
set_option maxRecDepth 100000

theorem same_flip {P : Program} {f : FuncId} {args : Array Value} {v : Ending} {w : World} (h : Calls P f args w fun e w' => e = v ∧ w = w') : Calls P f args w fun e w' => e = v ∧ w' = w := h.mono fun _ _ ⟨e1, e2⟩ => ⟨e1, e2.symm⟩
def eyB (s : ByteArray) : Bool := s.toList == []
def fr1 (E : Ew) : Bool := decide (E.kd < 1) || (decide (14 < E.kd) || (E.st != stB E.kd))
def fr2 (E : Ew) : Bool := !eyB E.ky && (!(E.kd == 2) && !(E.kd == 9))
def fr3 (E : Ew) : Bool := decide (E.tm < 0) || (decide (1000000000 < E.tm) || (decide (E.dp < 1) || decide (100000 < E.dp)))
/-- What the frame of an event gives, and its check. -/
def frmI (E : Ew) : Int := if fr1 E = true then 1 else if fr2 E = true then 1 else if nmdB E = false then 3 else if fr3 E = true then 2 else refI E.pv E.au E.kd
def chk7 (E : Ew) : Int := if frmI E = 0 then rchk E.kd E.c else frmI E
theorem chk7_flat (E : Ew) : chk7 E = if fr1 E = true then 1 else if fr2 E = true then 1 else if nmdB E = false then 3 else if fr3 E = true then 2 else if refI E.pv E.au E.kd = 0 then rchk E.kd E.c else refI E.pv E.au E.kd := by
 unfold chk7 frmI
 by_cases h1 : fr1 E = true
 ·simp only [h1, if_true]; rfl
 ·by_cases h2 : fr2 E = true
  ·simp only [h1, h2, if_true, if_false]; rfl
  ·by_cases h3 : nmdB E = false
   ·simp only [h1, h2, h3, if_true, if_false]; rfl
   ·by_cases h4 : fr3 E = true
    ·simp only [h1, h2, h3, h4, if_true, if_false]; rfl
    ·simp only [if_neg h1, if_neg h2, if_neg h3, if_neg h4]
set_option maxHeartbeats 16000000 in
theorem check15 (E : Ew) (a : Aw) (w : World) (h : IsE w E a) (hl : Lt w) : Calls Tryz.prog 15 #[.agg (ecs E a).toArray] w fun e w' => e = .returned (.int .i64 (chk7 E)) ∧ Below w.heap.size w w' := by
 have BA := hid ((Below.refl w.heap.size w).alloc (Nat.le_refl _) (.cells (ecs E a).toArray 34))
 have X0 := hid (blk_new w (ecs E a) 34)
 have HN := hid (fun y (hb : Below w.heap.size w y) => named44 E a y (h.below hb))
 have HF := hid (fun y (hb : Below w.heap.size w y) => refs45 E a y (h.below hb))
 have HC := hid (fun y (hb : Below w.heap.size w y) => check14 E.kd E.c a.c y (h.c.below hb) (hl.below hb))
 simp only [pchk_eq] at HC
 obtain ⟨qs, hqs⟩ : ∃ q, stB E.kd = q := ⟨_, rfl⟩
 have HS := hid (fun y => same_flip (state27 E.kd qs hqs y))
 have HQS := hid hqs
 have y3 := X0.out.cell (i := 3) rfl
 have y4 := X0.out.cell (i := 4) rfl
 have y5 := X0.out.cell (i := 5) rfl
 obtain ⟨r, hr⟩ : ∃ r, chk7 E = r := ⟨_, rfl⟩
 have HR := hid hr
 rw [hr]
 rw [chk7_flat] at HR
 clear hr h hl hqs
 generalize hW0 : w.alloc (.cells (ecs E a).toArray 34) = W0 at BA X0 y3 y4 y5
 dsimp only [ecs, z29] at hW0 X0 ⊢
 show Calls Tryz.prog 15 #[.agg #[.int .i64 E.id, .string E.rm, .string E.sd, .int .i64 E.kd, .bool E.st, .string E.ky, .int .i64 E.tm, .int .i64 E.dp, .slice a.pA E.pv.length a.pC, .slice a.qA E.au.length a.qC, .string E.c.tx, .int .i64 E.c.n, .int .i64 E.c.tg, .bool E.c.th, .string E.c.via, .slice a.c.aA E.c.al.length a.c.aC, .slice a.c.dA E.c.dn.length a.c.dC, .slice a.c.uA E.c.us.length a.c.uC, .slice a.c.kA E.c.ks.length a.c.kC, .int .i64 E.c.d, .int .i64 E.c.x3, .int .i64 E.c.x4, .int .i64 E.c.x5, .int .i64 E.c.x6, .int .i64 E.c.x7, .int .i64 E.c.x8, .int .i64 E.hs, .string E.sv, .int .i64 E.sm]] w _
 by_cases k1 : E.kd < 1
 ·have z1 : decide (E.kd < 1) = true := decide_eq_true k1
  have HX := hid (show r = 1 by rw [← HR.out]; exact if_pos (by unfold fr1; rw [z1]; rfl))
  clear k1 HR
  go_enter Tryz.func15, Tryz.ntmps15
  go_upto_region 1 with (fail)
  go_quiet ((go_at_call 43; (with_reducible exact Calls.quiet_of_same (HS.out _))))
  go_wp2
  go_ret
  exact ⟨ret_i HX.out, below_drewN BA.out _⟩
 ·have z1 : decide (E.kd < 1) = false := decide_eq_false k1
  by_cases k2 : 14 < E.kd
  ·have z2 : decide ((14 : Int) < E.kd) = true := decide_eq_true k2
   have HX := hid (show r = 1 by rw [← HR.out]; exact if_pos (by unfold fr1; rw [z1, z2]; rfl))
   clear k1 k2 HR
   go_enter Tryz.func15, Tryz.ntmps15
   go_upto_region 1 with (fail)
   go_quiet ((go_at_call 43; (with_reducible exact Calls.quiet_of_same (HS.out _))))
   go_wp2
   go_ret
   exact ⟨ret_i HX.out, below_drewN BA.out _⟩
  ·have z2 : decide ((14 : Int) < E.kd) = false := decide_eq_false k2
   have HF1 := hid (show fr1 E = (E.st != qs) by unfold fr1; rw [z1, z2, HQS.out]; rfl)
   cases zs : (E.st != qs)
   ·replace HR := hid (show (if fr2 E = true then 1 else if nmdB E = false then 3 else if fr3 E = true then 2 else if refI E.pv E.au E.kd = 0 then rchk E.kd E.c else refI E.pv E.au E.kd) = r by rw [← HR.out]; exact (if_neg (by rw [HF1.out, zs]; decide)).symm)
    have zs2 : (E.st == qs) = true := by cases h5 : E.st <;> cases h6 : qs <;> rw [h5, h6] at zs <;> first | rfl | cases zs
    clear k1 k2 HF1
    go_enter Tryz.func15, Tryz.ntmps15
    go_upto_region 1 with (fail)
    go_quiet ((go_at_call 43; (with_reducible exact Calls.quiet_of_same (HS.out _))))
    go_upto_region 3 with (fail)
    generalize hW1 : World.drewN W0 _ = w1
    have B1 := hid (show Below w.heap.size w w1 by rw [← hW1]; exact below_drewN BA.out _)
    have X1 := hid (show Blk w1 w.heap.size (ecs E a) 34 by rw [← hW1]; exact X0.out.below (below_drewN (Below.refl _ _) _))
    clear hW1 y3 y4 z1 z2 zs zs2
    have y3 := X1.out.cell (i := 3) rfl
    have y5 := X1.out.cell (i := 5) rfl
    have y6 := X1.out.cell (i := 6) rfl
    have y7 := X1.out.cell (i := 7) rfl
    obtain ⟨q2, hq2⟩ : ∃ q, fr2 E = q := ⟨_, rfl⟩
    have HQ2 := hid hq2
    rw [hq2] at HR
    clear hq2
    go_cut [32] from 20 to 32 (fun s wx => s = .bool q2 ∧ w1 = wx)
    case first =>
     cases c5 : (E.ky.toList == [])
     ·by_cases k2 : E.kd = 2
      ·have z2 : (E.kd == 2) = true := by simpa using k2
       have z2b : (E.kd != 2) = false := by simp [bne, z2]
       have HX := hid (show q2 = false by rw [← HQ2.out]; unfold fr2 eyB; rw [c5, z2]; rfl)
       clear k2
       go_wp2
       go_meet
       exact ⟨by rw [HX.out], rfl⟩
      ·have z2 : (E.kd == 2) = false := beq_eq_false_iff_ne.2 k2
       have z2b : (E.kd != 2) = true := by simp [bne, z2]
       by_cases k9 : E.kd = 9
       ·have z9 : (E.kd == 9) = true := by simpa using k9
        have z9b : (E.kd != 9) = false := by simp [bne, z9]
        have HX := hid (show q2 = false by rw [← HQ2.out]; unfold fr2 eyB; rw [c5, z2, z9]; rfl)
        clear k2 k9
        go_wp2
        go_meet
        exact ⟨by rw [HX.out], rfl⟩
       ·have z9 : (E.kd == 9) = false := beq_eq_false_iff_ne.2 k9
        have z9b : (E.kd != 9) = true := by simp [bne, z9]
        have HX := hid (show q2 = true by rw [← HQ2.out]; unfold fr2 eyB; rw [c5, z2, z9]; rfl)
        clear k2 k9
        go_wp2
        go_meet
        exact ⟨by rw [HX.out], rfl⟩
     ·have HX := hid (show q2 = false by rw [← HQ2.out]; unfold fr2 eyB; rw [c5]; rfl)
      go_wp2
      go_meet
      exact ⟨by rw [HX.out], rfl⟩
    case rest =>
     obtain ⟨rfl, rfl⟩ := hcut
     clear HQ2
     cases q2
     ·replace HR := hid (show (if nmdB E = false then 3 else if fr3 E = true then 2 else if refI E.pv E.au E.kd = 0 then rchk E.kd E.c else refI E.pv E.au E.kd) = r by rw [← HR.out]; exact (if_neg (by decide)).symm)
      obtain ⟨qn, hqn⟩ : ∃ q, nmdB E = q := ⟨_, rfl⟩
      rw [hqn] at HR
      simp only [hqn] at HN
      clear hqn
      cases qn
      ·have HX := hid (show r = 3 by rw [← HR.out]; exact if_pos rfl)
       go_wp2_with (first
        | (go_at_call 44; (with_reducible refine (HN.out _ B1.out).mono ?_); rintro e w2 ⟨rfl, hb⟩; have B2 := hid (B1.out.trans (hb.mono B1.out.size)); have X2 := hid (X1.out.below hb); clear hb y3 y5 y6 y7; have y3 := X2.out.cell (i := 3) rfl; have y6 := X2.out.cell (i := 6) rfl; have y7 := X2.out.cell (i := 7) rfl)
        | (refine wpList_load_mid rfl 34 _ rfl w.heap.size 0 rfl (ecs E a) _ X1.out.range Tryz.underlying34 rfl size34 ?_)
        | fail)
       go_ret
       exact ⟨ret_i HX.out, B2.out⟩
      ·replace HR := hid (show (if fr3 E = true then 2 else if refI E.pv E.au E.kd = 0 then rchk E.kd E.c else refI E.pv E.au E.kd) = r by rw [← HR.out]; exact (if_neg (by decide)).symm)
       go_upto_region 7 with (first
        | (go_at_call 44; (with_reducible refine (HN.out _ B1.out).mono ?_); rintro e w2 ⟨rfl, hb⟩; have B2 := hid (B1.out.trans (hb.mono B1.out.size)); have X2 := hid (X1.out.below hb); clear hb y3 y5 y6 y7; have y3 := X2.out.cell (i := 3) rfl; have y6 := X2.out.cell (i := 6) rfl; have y7 := X2.out.cell (i := 7) rfl)
        | (refine wpList_load_mid rfl 34 _ rfl w.heap.size 0 rfl (ecs E a) _ X1.out.range Tryz.underlying34 rfl size34 ?_)
        | fail)
       by_cases t1 : E.tm < 0
       ·have z1 : decide (E.tm < 0) = true := decide_eq_true t1
        have HX := hid (show r = 2 by rw [← HR.out]; exact if_pos (by unfold fr3; rw [z1]; rfl))
        go_wp2
        go_ret
        exact ⟨ret_i HX.out, B2.out⟩
       ·have z1 : decide (E.tm < 0) = false := decide_eq_false t1
        by_cases t2 : 1000000000 < E.tm
        ·have z2 : decide ((1000000000 : Int) < E.tm) = true := decide_eq_true t2
         have HX := hid (show r = 2 by rw [← HR.out]; exact if_pos (by unfold fr3; rw [z1, z2]; rfl))
         go_wp2
         go_ret
         exact ⟨ret_i HX.out, B2.out⟩
        ·have z2 : decide ((1000000000 : Int) < E.tm) = false := decide_eq_false t2
         by_cases t3 : E.dp < 1
         ·have z3 : decide (E.dp < 1) = true := decide_eq_true t3
          have HX := hid (show r = 2 by rw [← HR.out]; exact if_pos (by unfold fr3; rw [z1, z2, z3]; rfl))
          go_wp2
          go_ret
          exact ⟨ret_i HX.out, B2.out⟩
         ·have z3 : decide (E.dp < 1) = false := decide_eq_false t3
          by_cases t4 : 100000 < E.dp
          ·have z4 : decide ((100000 : Int) < E.dp) = true := decide_eq_true t4
           have HX := hid (show r = 2 by rw [← HR.out]; exact if_pos (by unfold fr3; rw [z1, z2, z3, z4]; rfl))
           go_wp2
           go_ret
           exact ⟨ret_i HX.out, B2.out⟩
          ·have z4 : decide ((100000 : Int) < E.dp) = false := decide_eq_false t4
           replace HR := hid (show (if refI E.pv E.au E.kd = 0 then rchk E.kd E.c else refI E.pv E.au E.kd) = r by rw [← HR.out]; exact (if_neg (by unfold fr3; rw [z1, z2, z3, z4]; decide)).symm)
           obtain ⟨f, hf⟩ : ∃ f, refI E.pv E.au E.kd = f := ⟨_, rfl⟩
           rw [hf] at HR
           simp only [hf] at HF
           clear hf t1 t2 t3 t4
           by_cases hf0 : f = 0
           ·subst hf0
            have HX := hid (show r = rchk E.kd E.c by rw [← HR.out]; exact if_pos rfl)
            go_wp2_with (first
             | (go_at_call 45; (with_reducible refine (HF.out _ B2.out).mono ?_); rintro e w3 ⟨rfl, hb⟩; have B3 := hid (B2.out.trans (hb.mono B2.out.size)); have X3 := hid (X2.out.below hb); clear hb y3 y6 y7; have y3 := X3.out.cell (i := 3) rfl)
             | (refine wpList_load_mid rfl 34 _ rfl w.heap.size 0 rfl (ecs E a) _ X2.out.range Tryz.underlying34 rfl size34 ?_)
             | (refine wpList_load_mid rfl 30 _ rfl w.heap.size 10 rfl (ccs E.c a.c) _ (X3.out.mid 10 16) Tryz.underlying30 rfl size29 ?_)
             | (go_at_call 46; (with_reducible refine (HC.out _ B3.out).mono ?_); rintro e w4 ⟨rfl, hb⟩; have B4 := hid (B3.out.trans (hb.mono B3.out.size)); clear hb)
             | fail)
            go_ret
            exact ⟨ret_i HX.out, B4.out⟩
           ·have HX := hid (show r = f by rw [← HR.out]; exact if_neg hf0)
            have z0 : (f == 0) = false := beq_eq_false_iff_ne.2 hf0
            have z0b : (f != 0) = true := by simp [bne, z0]
            clear hf0
            go_wp2_with (first
             | (go_at_call 45; (with_reducible refine (HF.out _ B2.out).mono ?_); rintro e w3 ⟨rfl, hb⟩; have B3 := hid (B2.out.trans (hb.mono B2.out.size)); have X3 := hid (X2.out.below hb); clear hb y3 y6 y7; have y3 := X3.out.cell (i := 3) rfl)
             | (refine wpList_load_mid rfl 34 _ rfl w.heap.size 0 rfl (ecs E a) _ X2.out.range Tryz.underlying34 rfl size34 ?_)
             | fail)
            go_ret
            exact ⟨ret_i HX.out, B3.out⟩
     ·have HX := hid (show r = 1 by rw [← HR.out]; exact if_pos rfl)
      go_wp2
      go_ret
      exact ⟨ret_i HX.out, B1.out⟩
   ·have HX := hid (show r = 1 by rw [← HR.out]; exact if_pos (by rw [HF1.out, zs]))
    have zs2 : (E.st == qs) = false := by cases h5 : E.st <;> cases h6 : qs <;> rw [h5, h6] at zs <;> first | rfl | cases zs
    clear k1 k2 HR HF1
    go_enter Tryz.func15, Tryz.ntmps15
    go_upto_region 1 with (fail)
    go_quiet ((go_at_call 43; (with_reducible exact Calls.quiet_of_same (HS.out _))))
    go_wp2
    go_ret
    exact ⟨ret_i HX.out, below_drewN BA.out _⟩
end Go.Proofs.YtablocpcgknmaaaGreatDoor
