/- Verify. No condition. -/
import Derived.Test.YtablocpcgknmaaaGreatDoorRPh
import Derived.Test.YtablocpcgknmaaaGreatDoorRV13
import Derived.Test.YtablocpcgknmaaaGreatDoorRV5
namespace Go.Proofs.YtablocpcgknmaaaGreatDoor
open Go.Lib (hid)
open Go Go.RowKit
set_option linter.unusedVariables false
set_option linter.unusedSimpArgs false
set_option maxRecDepth 100000

/-- Whether the signature fits. -/
def sigB (E : Ew) : Bool := (E.sv.toList == (srvA E.sd).toList) && (E.sm == E.id)
/-- What Verify gives, the content being whole or not. -/
def verI (E : Ew) (b : Bool) : Int := if ¬ chk7 E = 0 then chk7 E else if (!b && !sameC (strip E.kd E.c) E.c) = true then 6 else if (idE E == E.id) = false then 11 else if sigB E = false then 12 else 0
set_option maxHeartbeats 32000000 in
theorem verify58 (E : Ew) (a : Aw) (b : Bool) (w : World) (h : IsE w E a) (hs : SmZ E) (hl : Lt w) : Calls Tryz.prog 58 #[.agg (ecs E a).toArray, .bool b] w fun e w' => e = .returned (.int .i64 (verI E b)) ∧ Below w.heap.size w w' := by
 have BA := hid ((Below.refl w.heap.size w).alloc (Nat.le_refl _) (.cells (ecs E a).toArray 34))
 have X0 := hid (blk_new w (ecs E a) 34)
 have HCK := hid (fun y (hb : Below w.heap.size w y) => check15 E a y (h.below hb) (hl.below hb))
 have HST := hid (fun y (hb : Below w.heap.size w y) => strip21 E.kd E.c a.c y (h.c.below hb) hs.c.smc (hl.below hb))
 unfold StN at HST
 have HM := hid (fun aL y (hk : IsC y (strip E.kd E.c) aL) (hb : Below w.heap.size w y) => same20 (strip E.kd E.c) E.c aL a.c y hk (h.c.below hb))
 have HI := hid (fun y (hb : Below w.heap.size w y) => idOf19 E a y (h.below hb) hs (hl.below hb))
 have HV := hid (fun y => serverOf_any E.sd h.sd y)
 obtain ⟨r, hr⟩ : ∃ r, verI E b = r := ⟨_, rfl⟩
 have HR := hid hr
 rw [hr]
 unfold verI sigB at HR
 generalize srvA E.sd = xs at HR HV
 generalize idE E = q at HR HI
 generalize chk7 E = k at HR HCK
 obtain ⟨m, hm⟩ : ∃ m, sameC (strip E.kd E.c) E.c = m := ⟨_, rfl⟩
 rw [hm] at HR
 simp only [hm] at HM
 clear hm
 generalize strip E.kd E.c = C2 at HST HM
 clear h hs hl hr
 generalize hW0 : w.alloc (.cells (ecs E a).toArray 34) = W0 at BA X0
 dsimp only [ecs, z29] at hW0 X0 ⊢
 go_enter Tryz.func58, Tryz.ntmps58
 go_upto_region 2 with (first
  | (refine wpList_load_mid rfl 34 _ rfl w.heap.size 0 rfl (ecs E a) _ X0.out.range Tryz.underlying34 rfl size34 ?_)
  | (go_at_call 15; (with_reducible refine (HCK.out W0 BA.out).mono ?_); rintro e w2 ⟨rfl, hb⟩; have B := hid (BA.out.trans (hb.mono BA.out.size)); have X := hid (X0.out.below hb); clear hb)
  | fail)
 by_cases hk : k = 0
 ·replace HR := hid (show (if (!b && !m) = true then 6 else if (q == E.id) = false then 11 else if ((E.sv.toList == xs.toList) && (E.sm == E.id)) = false then 12 else 0) = r by rw [← HR.out]; exact (if_neg (fun h => h hk)).symm)
  subst hk
  go_upto_region 4 with (fail)
  cases b with
  | true =>
   replace HR := hid (show (if (q == E.id) = false then 11 else if ((E.sv.toList == xs.toList) && (E.sm == E.id)) = false then 12 else 0) = r from HR.out)
   obtain ⟨wA, rfl⟩ : ∃ x : World, x = w2 := ⟨_, rfl⟩
   refine wp_region_held_drew (S := (fun y => Below wA.heap.size wA y)) (by kernel_rfl) ((Below.refl wA.heap.size wA).drew) (fun hH0 => ?_)
   generalize hy0 : World.drew _ = y0 at hH0 ⊢
   have RB0 : Hid (Below wA.heap.size wA y0) := hid hH0
   clear hy0
   refine mvA 0 (v := ?hv20) rfl ?hy20 ?hr20
   case hy20 => (intro w hSw; (try dsimp only at hSw); go_simp; (try with_reducible rfl))
   try simp only [Act.put, lsA, ls0, ls1]
   refine mvA 1 (v := ?hv21) rfl ?hy21 ?hr21
   case hy21 => (intro w hSw; (try dsimp only at hSw); go_simp; (try with_reducible rfl))
   try simp only [Act.put, lsA, ls0, ls1]
   refine mvA 2 (v := ?hv22) rfl ?hy22 ?hr22
   case hy22 => (intro w hSw; (try dsimp only at hSw); go_simp; (try with_reducible rfl))
   try simp only [Act.put, lsA, ls0, ls1]
   refine mvU 3 rfl ?_
   try simp only [Act.put, lsA, ls0, ls1]
   refine mvU 4 rfl ?_
   try simp only [Act.put, lsA, ls0, ls1]
   refine mvU 5 rfl ?_
   try simp only [Act.put, lsA, ls0, ls1]
   refine mvU 6 rfl ?_
   try simp only [Act.put, lsA, ls0, ls1]
   refine mvU 8 rfl ?_
   try simp only [Act.put, lsA, ls0, ls1]
   refine mvU 9 rfl ?_
   try simp only [Act.put, lsA, ls0, ls1]
   refine mvR 7 rfl (fun KK hKK => ?_)
   go_simp
   refine hKK.out _ _ (hH0) (fun hH1 => ?_)
   clear hKK KK
   try simp only [Act.put, lsA, ls0, ls1]
   refine mvR 10 rfl (fun KK hKK => ?_)
   go_simp
   refine hKK.out _ _ (hH1) (fun hH2 => ?_)
   clear hKK KK
   try simp only [Act.put, lsA, ls0, ls1]
   refine mvU 11 rfl ?_
   try simp only [Act.put, lsA, ls0, ls1]
   refine mvA 12 (v := ?hv23) rfl ?hy23 ?hr23
   case hy23 => (intro w hSw; (try dsimp only at hSw); go_simp; (try with_reducible rfl))
   try simp only [Act.put, lsA, ls0, ls1]
   refine wpAnyH_done (by kernel_rfl) ?_ _
   have RBe := hid (show Below wA.heap.size wA y0 from hH2)
   replace X := hid (X.out.below RBe.out)
   replace B := hid (B.out.trans (RBe.out.mono B.out.size))
   clear RBe
   obtain ⟨wB, rfl⟩ : ∃ x : World, x = y0 := ⟨_, rfl⟩
   go_upto_region 6 with (fail)
   cases s0 : (q == E.id)
   ·have s0b : (q != E.id) = true := by simp [bne, s0]
    have HX := hid (show r = 11 by rw [← HR.out, s0]; rfl)
    obtain ⟨wA, rfl⟩ : ∃ x : World, x = wB := ⟨_, rfl⟩
    refine wp_region_held_drew (S := (fun y => Below wA.heap.size wA y)) (by kernel_rfl) ((Below.refl wA.heap.size wA).drew) (fun hH0 => ?_)
    generalize hy0 : World.drew _ = y0 at hH0 ⊢
    have RB0 : Hid (Below wA.heap.size wA y0) := hid hH0
    clear hy0
    refine mvY 0 (v := .agg (ecs E a).toArray) rfl (yieldsIf_load_mid (by rfl) 34 _ rfl w.heap.size 0 rfl (ecs E a) _ (fun w0 hw0 => (X.out.below hw0).range) Tryz.underlying34 rfl size34) ?_
    try simp only [Act.put, lsA, ls0, ls1]
    refine mvA 2 (v := ?hv1) rfl ?hy1 ?hr1
    case hy1 => (intro w hSw; (try dsimp only at hSw); go_simp; (try with_reducible rfl))
    try simp only [Act.put, lsA, ls0, ls1]
    refine mvA 3 (v := .int .i64 E.id) rfl (fun w0 hw0 => by have q0 := (X.out.below hw0).cell (i := 0) rfl; go_simp) ?_
    try simp only [Act.put, lsA, ls0, ls1]
    refine mvR 1 rfl (fun KK hKK => ?_)
    go_simp
    (with_reducible refine (HI.out _ (B.out.trans (RB0.out.mono B.out.size))).mono ?_)
    rintro e0 y1 ⟨rfl, hb⟩
    have RB1 := hid (RB0.out.trans (hb.mono RB0.out.size))
    clear hb
    refine hKK.out _ _ (RB1.out) (fun hH1 => ?_)
    clear hKK KK
    try simp only [Act.put, lsA, ls0, ls1]
    refine mvA 4 (v := ?hv2) rfl ?hy2 ?hr2
    case hy2 => (intro w hSw; (try dsimp only at hSw); go_simp; (try with_reducible rfl))
    try simp only [Act.put, lsA, ls0, ls1]
    refine wpAnyH_done (by kernel_rfl) ?_ _
    have RBe := hid (show Below wA.heap.size wA y1 from hH1)
    replace X := hid (X.out.below RBe.out)
    replace B := hid (B.out.trans (RBe.out.mono B.out.size))
    clear RBe
    obtain ⟨wB, rfl⟩ : ∃ x : World, x = y1 := ⟨_, rfl⟩
    go_wp2
    go_ret
    exact ⟨ret_i HX.out, B.out⟩
   ·have s0b : (q != E.id) = false := by simp [bne, s0]
    replace HR := hid (show (if ((E.sv.toList == xs.toList) && (E.sm == E.id)) = false then 12 else 0) = r by rw [← HR.out, s0]; rfl)
    obtain ⟨wA, rfl⟩ : ∃ x : World, x = wB := ⟨_, rfl⟩
    refine wp_region_held_drew (S := (fun y => Below wA.heap.size wA y)) (by kernel_rfl) ((Below.refl wA.heap.size wA).drew) (fun hH0 => ?_)
    generalize hy0 : World.drew _ = y0 at hH0 ⊢
    have RB0 : Hid (Below wA.heap.size wA y0) := hid hH0
    clear hy0
    refine mvY 0 (v := .agg (ecs E a).toArray) rfl (yieldsIf_load_mid (by rfl) 34 _ rfl w.heap.size 0 rfl (ecs E a) _ (fun w0 hw0 => (X.out.below hw0).range) Tryz.underlying34 rfl size34) ?_
    try simp only [Act.put, lsA, ls0, ls1]
    refine mvA 2 (v := ?hv18) rfl ?hy18 ?hr18
    case hy18 => (intro w hSw; (try dsimp only at hSw); go_simp; (try with_reducible rfl))
    try simp only [Act.put, lsA, ls0, ls1]
    refine mvA 3 (v := .int .i64 E.id) rfl (fun w0 hw0 => by have q0 := (X.out.below hw0).cell (i := 0) rfl; go_simp) ?_
    try simp only [Act.put, lsA, ls0, ls1]
    refine mvR 1 rfl (fun KK hKK => ?_)
    go_simp
    (with_reducible refine (HI.out _ (B.out.trans (RB0.out.mono B.out.size))).mono ?_)
    rintro e0 y1 ⟨rfl, hb⟩
    have RB1 := hid (RB0.out.trans (hb.mono RB0.out.size))
    clear hb
    refine hKK.out _ _ (RB1.out) (fun hH1 => ?_)
    clear hKK KK
    try simp only [Act.put, lsA, ls0, ls1]
    refine mvA 4 (v := ?hv19) rfl ?hy19 ?hr19
    case hy19 => (intro w hSw; (try dsimp only at hSw); go_simp; (try with_reducible rfl))
    try simp only [Act.put, lsA, ls0, ls1]
    refine wpAnyH_done (by kernel_rfl) ?_ _
    have RBe := hid (show Below wA.heap.size wA y1 from hH1)
    replace X := hid (X.out.below RBe.out)
    replace B := hid (B.out.trans (RBe.out.mono B.out.size))
    clear RBe
    obtain ⟨wB, rfl⟩ : ∃ x : World, x = y1 := ⟨_, rfl⟩
    go_upto_region 8 with (fail)
    clear s0 s0b
    cases s1 : (E.sv.toList == xs.toList)
    ·have s1b : (E.sv.toList != xs.toList) = true := by simp [bne, s1]
     have HX := hid (show r = 12 by rw [← HR.out, s1]; rfl)
     obtain ⟨wA, rfl⟩ : ∃ x : World, x = wB := ⟨_, rfl⟩
     refine wp_region_held_drew (S := (fun y => Below wA.heap.size wA y)) (by kernel_rfl) ((Below.refl wA.heap.size wA).drew) (fun hH0 => ?_)
     generalize hy0 : World.drew _ = y0 at hH0 ⊢
     have RB0 : Hid (Below wA.heap.size wA y0) := hid hH0
     clear hy0
     refine mvA 0 (v := ?hv3) rfl ?hy3 ?hr3
     case hy3 => (intro w hSw; (try dsimp only at hSw); go_simp; (try with_reducible rfl))
     try simp only [Act.put, lsA, ls0, ls1]
     refine mvY 1 (v := .agg #[.string E.sv, .int .i64 E.sm]) rfl (yieldsIf_load_mid (by rfl) 32 _ rfl w.heap.size 27 rfl [.string E.sv, .int .i64 E.sm] _ (fun w0 hw0 => (X.out.below hw0).mid 27 2) Tryz.underlying32 rfl size32) ?_
     try simp only [Act.put, lsA, ls0, ls1]
     refine mvA 2 (v := ?hv4) rfl ?hy4 ?hr4
     case hy4 => (intro w hSw; (try dsimp only at hSw); go_simp; (try with_reducible rfl))
     try simp only [Act.put, lsA, ls0, ls1]
     refine mvA 3 (v := .string E.sd) rfl (fun w0 hw0 => by have q0 := (X.out.below hw0).cell (i := 2) rfl; go_simp) ?_
     try simp only [Act.put, lsA, ls0, ls1]
     refine mvA 5 (v := ?hv5) rfl ?hy5 ?hr5
     case hy5 => (intro w hSw; (try dsimp only at hSw); go_simp; (try with_reducible rfl))
     try simp only [Act.put, lsA, ls0, ls1]
     refine mvA 6 (v := .int .i64 E.id) rfl (fun w0 hw0 => by have q0 := (X.out.below hw0).cell (i := 0) rfl; go_simp) ?_
     try simp only [Act.put, lsA, ls0, ls1]
     refine mvR 4 rfl (fun KK hKK => ?_)
     go_simp
     (with_reducible refine (HV.out _).mono ?_)
     rintro e0 y1 ⟨rfl, hb⟩
     have RB1 := hid (RB0.out.trans (hb.mono RB0.out.size))
     clear hb
     refine hKK.out _ _ (RB1.out) (fun hH1 => ?_)
     clear hKK KK
     try simp only [Act.put, lsA, ls0, ls1]
     refine mvA 7 (v := ?hv6) rfl ?hy6 ?hr6
     case hy6 => (intro w hSw; (try dsimp only at hSw); go_simp; (try with_reducible rfl))
     try simp only [Act.put, lsA, ls0, ls1]
     refine mvA 8 (v := ?hv7) rfl ?hy7 ?hr7
     case hy7 => (intro w hSw; (try dsimp only at hSw); go_simp; (try with_reducible rfl))
     try simp only [Act.put, lsA, ls0, ls1]
     refine wpAnyH_done (by kernel_rfl) ?_ _
     have RBe := hid (show Below wA.heap.size wA y1 from hH1)
     replace X := hid (X.out.below RBe.out)
     replace B := hid (B.out.trans (RBe.out.mono B.out.size))
     clear RBe
     obtain ⟨wB, rfl⟩ : ∃ x : World, x = y1 := ⟨_, rfl⟩
     go_wp2
     go_ret
     exact ⟨ret_i HX.out, B.out⟩
    ·have s1b : (E.sv.toList != xs.toList) = false := by simp [bne, s1]
     cases s2 : (E.sm == E.id)
     ·have s2b : (E.sm != E.id) = true := by simp [bne, s2]
      have HX := hid (show r = 12 by rw [← HR.out, s1, s2]; rfl)
      obtain ⟨wA, rfl⟩ : ∃ x : World, x = wB := ⟨_, rfl⟩
      refine wp_region_held_drew (S := (fun y => Below wA.heap.size wA y)) (by kernel_rfl) ((Below.refl wA.heap.size wA).drew) (fun hH0 => ?_)
      generalize hy0 : World.drew _ = y0 at hH0 ⊢
      have RB0 : Hid (Below wA.heap.size wA y0) := hid hH0
      clear hy0
      refine mvA 0 (v := ?hv8) rfl ?hy8 ?hr8
      case hy8 => (intro w hSw; (try dsimp only at hSw); go_simp; (try with_reducible rfl))
      try simp only [Act.put, lsA, ls0, ls1]
      refine mvY 1 (v := .agg #[.string E.sv, .int .i64 E.sm]) rfl (yieldsIf_load_mid (by rfl) 32 _ rfl w.heap.size 27 rfl [.string E.sv, .int .i64 E.sm] _ (fun w0 hw0 => (X.out.below hw0).mid 27 2) Tryz.underlying32 rfl size32) ?_
      try simp only [Act.put, lsA, ls0, ls1]
      refine mvA 2 (v := ?hv9) rfl ?hy9 ?hr9
      case hy9 => (intro w hSw; (try dsimp only at hSw); go_simp; (try with_reducible rfl))
      try simp only [Act.put, lsA, ls0, ls1]
      refine mvA 3 (v := .string E.sd) rfl (fun w0 hw0 => by have q0 := (X.out.below hw0).cell (i := 2) rfl; go_simp) ?_
      try simp only [Act.put, lsA, ls0, ls1]
      refine mvA 5 (v := ?hv10) rfl ?hy10 ?hr10
      case hy10 => (intro w hSw; (try dsimp only at hSw); go_simp; (try with_reducible rfl))
      try simp only [Act.put, lsA, ls0, ls1]
      refine mvA 6 (v := .int .i64 E.id) rfl (fun w0 hw0 => by have q0 := (X.out.below hw0).cell (i := 0) rfl; go_simp) ?_
      try simp only [Act.put, lsA, ls0, ls1]
      refine mvR 4 rfl (fun KK hKK => ?_)
      go_simp
      (with_reducible refine (HV.out _).mono ?_)
      rintro e0 y1 ⟨rfl, hb⟩
      have RB1 := hid (RB0.out.trans (hb.mono RB0.out.size))
      clear hb
      refine hKK.out _ _ (RB1.out) (fun hH1 => ?_)
      clear hKK KK
      try simp only [Act.put, lsA, ls0, ls1]
      refine mvA 7 (v := ?hv11) rfl ?hy11 ?hr11
      case hy11 => (intro w hSw; (try dsimp only at hSw); go_simp; (try with_reducible rfl))
      try simp only [Act.put, lsA, ls0, ls1]
      refine mvA 8 (v := ?hv12) rfl ?hy12 ?hr12
      case hy12 => (intro w hSw; (try dsimp only at hSw); go_simp; (try with_reducible rfl))
      try simp only [Act.put, lsA, ls0, ls1]
      refine wpAnyH_done (by kernel_rfl) ?_ _
      have RBe := hid (show Below wA.heap.size wA y1 from hH1)
      replace X := hid (X.out.below RBe.out)
      replace B := hid (B.out.trans (RBe.out.mono B.out.size))
      clear RBe
      obtain ⟨wB, rfl⟩ : ∃ x : World, x = y1 := ⟨_, rfl⟩
      go_wp2
      go_ret
      exact ⟨ret_i HX.out, B.out⟩
     ·have s2b : (E.sm != E.id) = false := by simp [bne, s2]
      have HX := hid (show r = 0 by rw [← HR.out, s1, s2]; rfl)
      obtain ⟨wA, rfl⟩ : ∃ x : World, x = wB := ⟨_, rfl⟩
      refine wp_region_held_drew (S := (fun y => Below wA.heap.size wA y)) (by kernel_rfl) ((Below.refl wA.heap.size wA).drew) (fun hH0 => ?_)
      generalize hy0 : World.drew _ = y0 at hH0 ⊢
      have RB0 : Hid (Below wA.heap.size wA y0) := hid hH0
      clear hy0
      refine mvA 0 (v := ?hv13) rfl ?hy13 ?hr13
      case hy13 => (intro w hSw; (try dsimp only at hSw); go_simp; (try with_reducible rfl))
      try simp only [Act.put, lsA, ls0, ls1]
      refine mvY 1 (v := .agg #[.string E.sv, .int .i64 E.sm]) rfl (yieldsIf_load_mid (by rfl) 32 _ rfl w.heap.size 27 rfl [.string E.sv, .int .i64 E.sm] _ (fun w0 hw0 => (X.out.below hw0).mid 27 2) Tryz.underlying32 rfl size32) ?_
      try simp only [Act.put, lsA, ls0, ls1]
      refine mvA 2 (v := ?hv14) rfl ?hy14 ?hr14
      case hy14 => (intro w hSw; (try dsimp only at hSw); go_simp; (try with_reducible rfl))
      try simp only [Act.put, lsA, ls0, ls1]
      refine mvA 3 (v := .string E.sd) rfl (fun w0 hw0 => by have q0 := (X.out.below hw0).cell (i := 2) rfl; go_simp) ?_
      try simp only [Act.put, lsA, ls0, ls1]
      refine mvA 5 (v := ?hv15) rfl ?hy15 ?hr15
      case hy15 => (intro w hSw; (try dsimp only at hSw); go_simp; (try with_reducible rfl))
      try simp only [Act.put, lsA, ls0, ls1]
      refine mvA 6 (v := .int .i64 E.id) rfl (fun w0 hw0 => by have q0 := (X.out.below hw0).cell (i := 0) rfl; go_simp) ?_
      try simp only [Act.put, lsA, ls0, ls1]
      refine mvR 4 rfl (fun KK hKK => ?_)
      go_simp
      (with_reducible refine (HV.out _).mono ?_)
      rintro e0 y1 ⟨rfl, hb⟩
      have RB1 := hid (RB0.out.trans (hb.mono RB0.out.size))
      clear hb
      refine hKK.out _ _ (RB1.out) (fun hH1 => ?_)
      clear hKK KK
      try simp only [Act.put, lsA, ls0, ls1]
      refine mvA 7 (v := ?hv16) rfl ?hy16 ?hr16
      case hy16 => (intro w hSw; (try dsimp only at hSw); go_simp; (try with_reducible rfl))
      try simp only [Act.put, lsA, ls0, ls1]
      refine mvA 8 (v := ?hv17) rfl ?hy17 ?hr17
      case hy17 => (intro w hSw; (try dsimp only at hSw); go_simp; (try with_reducible rfl))
      try simp only [Act.put, lsA, ls0, ls1]
      refine wpAnyH_done (by kernel_rfl) ?_ _
      have RBe := hid (show Below wA.heap.size wA y1 from hH1)
      replace X := hid (X.out.below RBe.out)
      replace B := hid (B.out.trans (RBe.out.mono B.out.size))
      clear RBe
      obtain ⟨wB, rfl⟩ : ∃ x : World, x = y1 := ⟨_, rfl⟩
      go_wp2
      go_ret
      exact ⟨ret_i HX.out, B.out⟩
  | false =>
   cases m with
   | false =>
    have HX := hid (show r = 6 from HR.out.symm)
    obtain ⟨wA, rfl⟩ : ∃ x : World, x = w2 := ⟨_, rfl⟩
    refine wp_region_held_drew (S := (fun y => Below wA.heap.size wA y)) (by kernel_rfl) ((Below.refl wA.heap.size wA).drew) (fun hH0 => ?_)
    generalize hy0 : World.drew _ = y0 at hH0 ⊢
    have RB0 : Hid (Below wA.heap.size wA y0) := hid hH0
    clear hy0
    refine mvA 0 (v := ?hv24) rfl ?hy24 ?hr24
    case hy24 => (intro w hSw; (try dsimp only at hSw); go_simp; (try with_reducible rfl))
    try simp only [Act.put, lsA, ls0, ls1]
    refine mvA 1 (v := ?hv25) rfl ?hy25 ?hr25
    case hy25 => (intro w hSw; (try dsimp only at hSw); go_simp; (try with_reducible rfl))
    try simp only [Act.put, lsA, ls0, ls1]
    refine mvA 2 (v := ?hv26) rfl ?hy26 ?hr26
    case hy26 => (intro w hSw; (try dsimp only at hSw); go_simp; (try with_reducible rfl))
    try simp only [Act.put, lsA, ls0, ls1]
    refine mvA 3 (v := ?hv27) rfl ?hy27 ?hr27
    case hy27 => (intro w hSw; (try dsimp only at hSw); go_simp; (try with_reducible rfl))
    try simp only [Act.put, lsA, ls0, ls1]
    refine mvA 4 (v := .int .i64 E.kd) rfl (fun w0 hw0 => by have q0 := (X.out.below hw0).cell (i := 3) rfl; go_simp) ?_
    try simp only [Act.put, lsA, ls0, ls1]
    refine mvA 5 (v := ?hv28) rfl ?hy28 ?hr28
    case hy28 => (intro w hSw; (try dsimp only at hSw); go_simp; (try with_reducible rfl))
    try simp only [Act.put, lsA, ls0, ls1]
    refine mvY 6 (v := .agg (ccs E.c a.c).toArray) rfl (yieldsIf_load_mid (by rfl) 30 _ rfl w.heap.size 10 rfl (ccs E.c a.c) _ (fun w0 hw0 => (X.out.below hw0).mid 10 16) Tryz.underlying30 rfl size29) ?_
    try simp only [Act.put, lsA, ls0, ls1]
    refine mvA 8 (v := ?hv29) rfl ?hy29 ?hr29
    case hy29 => (intro w hSw; (try dsimp only at hSw); go_simp; (try with_reducible rfl))
    try simp only [Act.put, lsA, ls0, ls1]
    refine mvY 9 (v := .agg (ccs E.c a.c).toArray) rfl (yieldsIf_load_mid (by rfl) 30 _ rfl w.heap.size 10 rfl (ccs E.c a.c) _ (fun w0 hw0 => (X.out.below hw0).mid 10 16) Tryz.underlying30 rfl size29) ?_
    try simp only [Act.put, lsA, ls0, ls1]
    refine mvR 7 rfl (fun KK hKK => ?_)
    go_simp
    (with_reducible refine (HST.out _ (B.out.trans (RB0.out.mono B.out.size))).mono ?_)
    rintro e0 y1 ⟨aL, rfl, hi, hb, hn⟩
    have RB1 := hid (RB0.out.trans (hb.mono RB0.out.size))
    have K4 := hid hi
    clear hi hn
    clear hb
    refine hKK.out _ _ (RB1.out) (fun hH1 => ?_)
    clear hKK KK
    try simp only [Act.put, lsA, ls0, ls1]
    refine mvR 10 rfl (fun KK hKK => ?_)
    go_simp
    (with_reducible refine (HM.out aL _ K4.out (B.out.trans (RB1.out.mono B.out.size))).mono ?_)
    rintro e0 y2 ⟨rfl, hb⟩
    have RB2 := hid (RB1.out.trans (hb.mono RB1.out.size))
    clear hb
    refine hKK.out _ _ (RB2.out) (fun hH2 => ?_)
    clear hKK KK
    try simp only [Act.put, lsA, ls0, ls1]
    refine mvA 11 (v := ?hv30) rfl ?hy30 ?hr30
    case hy30 => (intro w hSw; (try dsimp only at hSw); go_simp; (try with_reducible rfl))
    try simp only [Act.put, lsA, ls0, ls1]
    refine mvA 12 (v := ?hv31) rfl ?hy31 ?hr31
    case hy31 => (intro w hSw; (try dsimp only at hSw); go_simp; (try with_reducible rfl))
    try simp only [Act.put, lsA, ls0, ls1]
    refine wpAnyH_done (by kernel_rfl) ?_ _
    have RBe := hid (show Below wA.heap.size wA y2 from hH2)
    replace X := hid (X.out.below RBe.out)
    replace B := hid (B.out.trans (RBe.out.mono B.out.size))
    clear RBe
    obtain ⟨wB, rfl⟩ : ∃ x : World, x = y2 := ⟨_, rfl⟩
    go_wp2
    go_ret
    exact ⟨ret_i HX.out, B.out⟩
   | true =>
    replace HR := hid (show (if (q == E.id) = false then 11 else if ((E.sv.toList == xs.toList) && (E.sm == E.id)) = false then 12 else 0) = r from HR.out)
    obtain ⟨wA, rfl⟩ : ∃ x : World, x = w2 := ⟨_, rfl⟩
    refine wp_region_held_drew (S := (fun y => Below wA.heap.size wA y)) (by kernel_rfl) ((Below.refl wA.heap.size wA).drew) (fun hH0 => ?_)
    generalize hy0 : World.drew _ = y0 at hH0 ⊢
    have RB0 : Hid (Below wA.heap.size wA y0) := hid hH0
    clear hy0
    refine mvA 0 (v := ?hv51) rfl ?hy51 ?hr51
    case hy51 => (intro w hSw; (try dsimp only at hSw); go_simp; (try with_reducible rfl))
    try simp only [Act.put, lsA, ls0, ls1]
    refine mvA 1 (v := ?hv52) rfl ?hy52 ?hr52
    case hy52 => (intro w hSw; (try dsimp only at hSw); go_simp; (try with_reducible rfl))
    try simp only [Act.put, lsA, ls0, ls1]
    refine mvA 2 (v := ?hv53) rfl ?hy53 ?hr53
    case hy53 => (intro w hSw; (try dsimp only at hSw); go_simp; (try with_reducible rfl))
    try simp only [Act.put, lsA, ls0, ls1]
    refine mvA 3 (v := ?hv54) rfl ?hy54 ?hr54
    case hy54 => (intro w hSw; (try dsimp only at hSw); go_simp; (try with_reducible rfl))
    try simp only [Act.put, lsA, ls0, ls1]
    refine mvA 4 (v := .int .i64 E.kd) rfl (fun w0 hw0 => by have q0 := (X.out.below hw0).cell (i := 3) rfl; go_simp) ?_
    try simp only [Act.put, lsA, ls0, ls1]
    refine mvA 5 (v := ?hv55) rfl ?hy55 ?hr55
    case hy55 => (intro w hSw; (try dsimp only at hSw); go_simp; (try with_reducible rfl))
    try simp only [Act.put, lsA, ls0, ls1]
    refine mvY 6 (v := .agg (ccs E.c a.c).toArray) rfl (yieldsIf_load_mid (by rfl) 30 _ rfl w.heap.size 10 rfl (ccs E.c a.c) _ (fun w0 hw0 => (X.out.below hw0).mid 10 16) Tryz.underlying30 rfl size29) ?_
    try simp only [Act.put, lsA, ls0, ls1]
    refine mvA 8 (v := ?hv56) rfl ?hy56 ?hr56
    case hy56 => (intro w hSw; (try dsimp only at hSw); go_simp; (try with_reducible rfl))
    try simp only [Act.put, lsA, ls0, ls1]
    refine mvY 9 (v := .agg (ccs E.c a.c).toArray) rfl (yieldsIf_load_mid (by rfl) 30 _ rfl w.heap.size 10 rfl (ccs E.c a.c) _ (fun w0 hw0 => (X.out.below hw0).mid 10 16) Tryz.underlying30 rfl size29) ?_
    try simp only [Act.put, lsA, ls0, ls1]
    refine mvR 7 rfl (fun KK hKK => ?_)
    go_simp
    (with_reducible refine (HST.out _ (B.out.trans (RB0.out.mono B.out.size))).mono ?_)
    rintro e0 y1 ⟨aL, rfl, hi, hb, hn⟩
    have RB1 := hid (RB0.out.trans (hb.mono RB0.out.size))
    have K4 := hid hi
    clear hi hn
    clear hb
    refine hKK.out _ _ (RB1.out) (fun hH1 => ?_)
    clear hKK KK
    try simp only [Act.put, lsA, ls0, ls1]
    refine mvR 10 rfl (fun KK hKK => ?_)
    go_simp
    (with_reducible refine (HM.out aL _ K4.out (B.out.trans (RB1.out.mono B.out.size))).mono ?_)
    rintro e0 y2 ⟨rfl, hb⟩
    have RB2 := hid (RB1.out.trans (hb.mono RB1.out.size))
    clear hb
    refine hKK.out _ _ (RB2.out) (fun hH2 => ?_)
    clear hKK KK
    try simp only [Act.put, lsA, ls0, ls1]
    refine mvA 11 (v := ?hv57) rfl ?hy57 ?hr57
    case hy57 => (intro w hSw; (try dsimp only at hSw); go_simp; (try with_reducible rfl))
    try simp only [Act.put, lsA, ls0, ls1]
    refine mvA 12 (v := ?hv58) rfl ?hy58 ?hr58
    case hy58 => (intro w hSw; (try dsimp only at hSw); go_simp; (try with_reducible rfl))
    try simp only [Act.put, lsA, ls0, ls1]
    refine wpAnyH_done (by kernel_rfl) ?_ _
    have RBe := hid (show Below wA.heap.size wA y2 from hH2)
    replace X := hid (X.out.below RBe.out)
    replace B := hid (B.out.trans (RBe.out.mono B.out.size))
    clear RBe
    obtain ⟨wB, rfl⟩ : ∃ x : World, x = y2 := ⟨_, rfl⟩
    go_upto_region 6 with (fail)
    cases s0 : (q == E.id)
    ·have s0b : (q != E.id) = true := by simp [bne, s0]
     have HX := hid (show r = 11 by rw [← HR.out, s0]; rfl)
     obtain ⟨wA, rfl⟩ : ∃ x : World, x = wB := ⟨_, rfl⟩
     refine wp_region_held_drew (S := (fun y => Below wA.heap.size wA y)) (by kernel_rfl) ((Below.refl wA.heap.size wA).drew) (fun hH0 => ?_)
     generalize hy0 : World.drew _ = y0 at hH0 ⊢
     have RB0 : Hid (Below wA.heap.size wA y0) := hid hH0
     clear hy0
     refine mvY 0 (v := .agg (ecs E a).toArray) rfl (yieldsIf_load_mid (by rfl) 34 _ rfl w.heap.size 0 rfl (ecs E a) _ (fun w0 hw0 => (X.out.below hw0).range) Tryz.underlying34 rfl size34) ?_
     try simp only [Act.put, lsA, ls0, ls1]
     refine mvA 2 (v := ?hv32) rfl ?hy32 ?hr32
     case hy32 => (intro w hSw; (try dsimp only at hSw); go_simp; (try with_reducible rfl))
     try simp only [Act.put, lsA, ls0, ls1]
     refine mvA 3 (v := .int .i64 E.id) rfl (fun w0 hw0 => by have q0 := (X.out.below hw0).cell (i := 0) rfl; go_simp) ?_
     try simp only [Act.put, lsA, ls0, ls1]
     refine mvR 1 rfl (fun KK hKK => ?_)
     go_simp
     (with_reducible refine (HI.out _ (B.out.trans (RB0.out.mono B.out.size))).mono ?_)
     rintro e0 y1 ⟨rfl, hb⟩
     have RB1 := hid (RB0.out.trans (hb.mono RB0.out.size))
     clear hb
     refine hKK.out _ _ (RB1.out) (fun hH1 => ?_)
     clear hKK KK
     try simp only [Act.put, lsA, ls0, ls1]
     refine mvA 4 (v := ?hv33) rfl ?hy33 ?hr33
     case hy33 => (intro w hSw; (try dsimp only at hSw); go_simp; (try with_reducible rfl))
     try simp only [Act.put, lsA, ls0, ls1]
     refine wpAnyH_done (by kernel_rfl) ?_ _
     have RBe := hid (show Below wA.heap.size wA y1 from hH1)
     replace X := hid (X.out.below RBe.out)
     replace B := hid (B.out.trans (RBe.out.mono B.out.size))
     clear RBe
     obtain ⟨wB, rfl⟩ : ∃ x : World, x = y1 := ⟨_, rfl⟩
     go_wp2
     go_ret
     exact ⟨ret_i HX.out, B.out⟩
    ·have s0b : (q != E.id) = false := by simp [bne, s0]
     replace HR := hid (show (if ((E.sv.toList == xs.toList) && (E.sm == E.id)) = false then 12 else 0) = r by rw [← HR.out, s0]; rfl)
     obtain ⟨wA, rfl⟩ : ∃ x : World, x = wB := ⟨_, rfl⟩
     refine wp_region_held_drew (S := (fun y => Below wA.heap.size wA y)) (by kernel_rfl) ((Below.refl wA.heap.size wA).drew) (fun hH0 => ?_)
     generalize hy0 : World.drew _ = y0 at hH0 ⊢
     have RB0 : Hid (Below wA.heap.size wA y0) := hid hH0
     clear hy0
     refine mvY 0 (v := .agg (ecs E a).toArray) rfl (yieldsIf_load_mid (by rfl) 34 _ rfl w.heap.size 0 rfl (ecs E a) _ (fun w0 hw0 => (X.out.below hw0).range) Tryz.underlying34 rfl size34) ?_
     try simp only [Act.put, lsA, ls0, ls1]
     refine mvA 2 (v := ?hv49) rfl ?hy49 ?hr49
     case hy49 => (intro w hSw; (try dsimp only at hSw); go_simp; (try with_reducible rfl))
     try simp only [Act.put, lsA, ls0, ls1]
     refine mvA 3 (v := .int .i64 E.id) rfl (fun w0 hw0 => by have q0 := (X.out.below hw0).cell (i := 0) rfl; go_simp) ?_
     try simp only [Act.put, lsA, ls0, ls1]
     refine mvR 1 rfl (fun KK hKK => ?_)
     go_simp
     (with_reducible refine (HI.out _ (B.out.trans (RB0.out.mono B.out.size))).mono ?_)
     rintro e0 y1 ⟨rfl, hb⟩
     have RB1 := hid (RB0.out.trans (hb.mono RB0.out.size))
     clear hb
     refine hKK.out _ _ (RB1.out) (fun hH1 => ?_)
     clear hKK KK
     try simp only [Act.put, lsA, ls0, ls1]
     refine mvA 4 (v := ?hv50) rfl ?hy50 ?hr50
     case hy50 => (intro w hSw; (try dsimp only at hSw); go_simp; (try with_reducible rfl))
     try simp only [Act.put, lsA, ls0, ls1]
     refine wpAnyH_done (by kernel_rfl) ?_ _
     have RBe := hid (show Below wA.heap.size wA y1 from hH1)
     replace X := hid (X.out.below RBe.out)
     replace B := hid (B.out.trans (RBe.out.mono B.out.size))
     clear RBe
     obtain ⟨wB, rfl⟩ : ∃ x : World, x = y1 := ⟨_, rfl⟩
     go_upto_region 8 with (fail)
     clear s0 s0b
     cases s1 : (E.sv.toList == xs.toList)
     ·have s1b : (E.sv.toList != xs.toList) = true := by simp [bne, s1]
      have HX := hid (show r = 12 by rw [← HR.out, s1]; rfl)
      obtain ⟨wA, rfl⟩ : ∃ x : World, x = wB := ⟨_, rfl⟩
      refine wp_region_held_drew (S := (fun y => Below wA.heap.size wA y)) (by kernel_rfl) ((Below.refl wA.heap.size wA).drew) (fun hH0 => ?_)
      generalize hy0 : World.drew _ = y0 at hH0 ⊢
      have RB0 : Hid (Below wA.heap.size wA y0) := hid hH0
      clear hy0
      refine mvA 0 (v := ?hv34) rfl ?hy34 ?hr34
      case hy34 => (intro w hSw; (try dsimp only at hSw); go_simp; (try with_reducible rfl))
      try simp only [Act.put, lsA, ls0, ls1]
      refine mvY 1 (v := .agg #[.string E.sv, .int .i64 E.sm]) rfl (yieldsIf_load_mid (by rfl) 32 _ rfl w.heap.size 27 rfl [.string E.sv, .int .i64 E.sm] _ (fun w0 hw0 => (X.out.below hw0).mid 27 2) Tryz.underlying32 rfl size32) ?_
      try simp only [Act.put, lsA, ls0, ls1]
      refine mvA 2 (v := ?hv35) rfl ?hy35 ?hr35
      case hy35 => (intro w hSw; (try dsimp only at hSw); go_simp; (try with_reducible rfl))
      try simp only [Act.put, lsA, ls0, ls1]
      refine mvA 3 (v := .string E.sd) rfl (fun w0 hw0 => by have q0 := (X.out.below hw0).cell (i := 2) rfl; go_simp) ?_
      try simp only [Act.put, lsA, ls0, ls1]
      refine mvA 5 (v := ?hv36) rfl ?hy36 ?hr36
      case hy36 => (intro w hSw; (try dsimp only at hSw); go_simp; (try with_reducible rfl))
      try simp only [Act.put, lsA, ls0, ls1]
      refine mvA 6 (v := .int .i64 E.id) rfl (fun w0 hw0 => by have q0 := (X.out.below hw0).cell (i := 0) rfl; go_simp) ?_
      try simp only [Act.put, lsA, ls0, ls1]
      refine mvR 4 rfl (fun KK hKK => ?_)
      go_simp
      (with_reducible refine (HV.out _).mono ?_)
      rintro e0 y1 ⟨rfl, hb⟩
      have RB1 := hid (RB0.out.trans (hb.mono RB0.out.size))
      clear hb
      refine hKK.out _ _ (RB1.out) (fun hH1 => ?_)
      clear hKK KK
      try simp only [Act.put, lsA, ls0, ls1]
      refine mvA 7 (v := ?hv37) rfl ?hy37 ?hr37
      case hy37 => (intro w hSw; (try dsimp only at hSw); go_simp; (try with_reducible rfl))
      try simp only [Act.put, lsA, ls0, ls1]
      refine mvA 8 (v := ?hv38) rfl ?hy38 ?hr38
      case hy38 => (intro w hSw; (try dsimp only at hSw); go_simp; (try with_reducible rfl))
      try simp only [Act.put, lsA, ls0, ls1]
      refine wpAnyH_done (by kernel_rfl) ?_ _
      have RBe := hid (show Below wA.heap.size wA y1 from hH1)
      replace X := hid (X.out.below RBe.out)
      replace B := hid (B.out.trans (RBe.out.mono B.out.size))
      clear RBe
      obtain ⟨wB, rfl⟩ : ∃ x : World, x = y1 := ⟨_, rfl⟩
      go_wp2
      go_ret
      exact ⟨ret_i HX.out, B.out⟩
     ·have s1b : (E.sv.toList != xs.toList) = false := by simp [bne, s1]
      cases s2 : (E.sm == E.id)
      ·have s2b : (E.sm != E.id) = true := by simp [bne, s2]
       have HX := hid (show r = 12 by rw [← HR.out, s1, s2]; rfl)
       obtain ⟨wA, rfl⟩ : ∃ x : World, x = wB := ⟨_, rfl⟩
       refine wp_region_held_drew (S := (fun y => Below wA.heap.size wA y)) (by kernel_rfl) ((Below.refl wA.heap.size wA).drew) (fun hH0 => ?_)
       generalize hy0 : World.drew _ = y0 at hH0 ⊢
       have RB0 : Hid (Below wA.heap.size wA y0) := hid hH0
       clear hy0
       refine mvA 0 (v := ?hv39) rfl ?hy39 ?hr39
       case hy39 => (intro w hSw; (try dsimp only at hSw); go_simp; (try with_reducible rfl))
       try simp only [Act.put, lsA, ls0, ls1]
       refine mvY 1 (v := .agg #[.string E.sv, .int .i64 E.sm]) rfl (yieldsIf_load_mid (by rfl) 32 _ rfl w.heap.size 27 rfl [.string E.sv, .int .i64 E.sm] _ (fun w0 hw0 => (X.out.below hw0).mid 27 2) Tryz.underlying32 rfl size32) ?_
       try simp only [Act.put, lsA, ls0, ls1]
       refine mvA 2 (v := ?hv40) rfl ?hy40 ?hr40
       case hy40 => (intro w hSw; (try dsimp only at hSw); go_simp; (try with_reducible rfl))
       try simp only [Act.put, lsA, ls0, ls1]
       refine mvA 3 (v := .string E.sd) rfl (fun w0 hw0 => by have q0 := (X.out.below hw0).cell (i := 2) rfl; go_simp) ?_
       try simp only [Act.put, lsA, ls0, ls1]
       refine mvA 5 (v := ?hv41) rfl ?hy41 ?hr41
       case hy41 => (intro w hSw; (try dsimp only at hSw); go_simp; (try with_reducible rfl))
       try simp only [Act.put, lsA, ls0, ls1]
       refine mvA 6 (v := .int .i64 E.id) rfl (fun w0 hw0 => by have q0 := (X.out.below hw0).cell (i := 0) rfl; go_simp) ?_
       try simp only [Act.put, lsA, ls0, ls1]
       refine mvR 4 rfl (fun KK hKK => ?_)
       go_simp
       (with_reducible refine (HV.out _).mono ?_)
       rintro e0 y1 ⟨rfl, hb⟩
       have RB1 := hid (RB0.out.trans (hb.mono RB0.out.size))
       clear hb
       refine hKK.out _ _ (RB1.out) (fun hH1 => ?_)
       clear hKK KK
       try simp only [Act.put, lsA, ls0, ls1]
       refine mvA 7 (v := ?hv42) rfl ?hy42 ?hr42
       case hy42 => (intro w hSw; (try dsimp only at hSw); go_simp; (try with_reducible rfl))
       try simp only [Act.put, lsA, ls0, ls1]
       refine mvA 8 (v := ?hv43) rfl ?hy43 ?hr43
       case hy43 => (intro w hSw; (try dsimp only at hSw); go_simp; (try with_reducible rfl))
       try simp only [Act.put, lsA, ls0, ls1]
       refine wpAnyH_done (by kernel_rfl) ?_ _
       have RBe := hid (show Below wA.heap.size wA y1 from hH1)
       replace X := hid (X.out.below RBe.out)
       replace B := hid (B.out.trans (RBe.out.mono B.out.size))
       clear RBe
       obtain ⟨wB, rfl⟩ : ∃ x : World, x = y1 := ⟨_, rfl⟩
       go_wp2
       go_ret
       exact ⟨ret_i HX.out, B.out⟩
      ·have s2b : (E.sm != E.id) = false := by simp [bne, s2]
       have HX := hid (show r = 0 by rw [← HR.out, s1, s2]; rfl)
       obtain ⟨wA, rfl⟩ : ∃ x : World, x = wB := ⟨_, rfl⟩
       refine wp_region_held_drew (S := (fun y => Below wA.heap.size wA y)) (by kernel_rfl) ((Below.refl wA.heap.size wA).drew) (fun hH0 => ?_)
       generalize hy0 : World.drew _ = y0 at hH0 ⊢
       have RB0 : Hid (Below wA.heap.size wA y0) := hid hH0
       clear hy0
       refine mvA 0 (v := ?hv44) rfl ?hy44 ?hr44
       case hy44 => (intro w hSw; (try dsimp only at hSw); go_simp; (try with_reducible rfl))
       try simp only [Act.put, lsA, ls0, ls1]
       refine mvY 1 (v := .agg #[.string E.sv, .int .i64 E.sm]) rfl (yieldsIf_load_mid (by rfl) 32 _ rfl w.heap.size 27 rfl [.string E.sv, .int .i64 E.sm] _ (fun w0 hw0 => (X.out.below hw0).mid 27 2) Tryz.underlying32 rfl size32) ?_
       try simp only [Act.put, lsA, ls0, ls1]
       refine mvA 2 (v := ?hv45) rfl ?hy45 ?hr45
       case hy45 => (intro w hSw; (try dsimp only at hSw); go_simp; (try with_reducible rfl))
       try simp only [Act.put, lsA, ls0, ls1]
       refine mvA 3 (v := .string E.sd) rfl (fun w0 hw0 => by have q0 := (X.out.below hw0).cell (i := 2) rfl; go_simp) ?_
       try simp only [Act.put, lsA, ls0, ls1]
       refine mvA 5 (v := ?hv46) rfl ?hy46 ?hr46
       case hy46 => (intro w hSw; (try dsimp only at hSw); go_simp; (try with_reducible rfl))
       try simp only [Act.put, lsA, ls0, ls1]
       refine mvA 6 (v := .int .i64 E.id) rfl (fun w0 hw0 => by have q0 := (X.out.below hw0).cell (i := 0) rfl; go_simp) ?_
       try simp only [Act.put, lsA, ls0, ls1]
       refine mvR 4 rfl (fun KK hKK => ?_)
       go_simp
       (with_reducible refine (HV.out _).mono ?_)
       rintro e0 y1 ⟨rfl, hb⟩
       have RB1 := hid (RB0.out.trans (hb.mono RB0.out.size))
       clear hb
       refine hKK.out _ _ (RB1.out) (fun hH1 => ?_)
       clear hKK KK
       try simp only [Act.put, lsA, ls0, ls1]
       refine mvA 7 (v := ?hv47) rfl ?hy47 ?hr47
       case hy47 => (intro w hSw; (try dsimp only at hSw); go_simp; (try with_reducible rfl))
       try simp only [Act.put, lsA, ls0, ls1]
       refine mvA 8 (v := ?hv48) rfl ?hy48 ?hr48
       case hy48 => (intro w hSw; (try dsimp only at hSw); go_simp; (try with_reducible rfl))
       try simp only [Act.put, lsA, ls0, ls1]
       refine wpAnyH_done (by kernel_rfl) ?_ _
       have RBe := hid (show Below wA.heap.size wA y1 from hH1)
       replace X := hid (X.out.below RBe.out)
       replace B := hid (B.out.trans (RBe.out.mono B.out.size))
       clear RBe
       obtain ⟨wB, rfl⟩ : ∃ x : World, x = y1 := ⟨_, rfl⟩
       go_wp2
       go_ret
       exact ⟨ret_i HX.out, B.out⟩
 ·have HX := hid (show r = k by rw [← HR.out]; exact if_pos hk)
  have z0 : (k == 0) = false := beq_eq_false_iff_ne.2 hk
  have z0b : (k != 0) = true := by simp [bne, z0]
  clear hk
  go_wp2
  go_ret
  exact ⟨ret_i HX.out, B.out⟩

set_option maxHeartbeats 32000000 in
theorem verify30 (E : Ew) (a : Aw) (w : World) (h : IsE w E a) (hs : SmZ E) (hl : Lt w) : Calls Tryz.prog 30 #[.agg (ecs E a).toArray] w fun e w' => e = .returned (.int .i64 (verI E (whoB E))) ∧ Below w.heap.size w w' := by
 have BA := hid ((Below.refl w.heap.size w).alloc (Nat.le_refl _) (.cells (ecs E a).toArray 34))
 have X0 := hid (blk_new w (ecs E a) 34)
 have HW := hid (fun y (hb : Below w.heap.size w y) => whole21 E a y (h.below hb) hs.c)
 have HV := hid (fun y (hb : Below w.heap.size w y) => verify58 E a (whoB E) y (h.below hb) hs (hl.below hb))
 generalize verI E (whoB E) = r at HV ⊢
 generalize whoB E = b at HW HV
 clear h hs hl
 generalize hW0 : w.alloc (.cells (ecs E a).toArray 34) = W0 at BA X0
 dsimp only [ecs, z29] at hW0 X0 ⊢
 have X := X0
 have B := BA
 clear X0 BA
 go_enter Tryz.func30, Tryz.ntmps30
 go_upto_region 1 with (fail)
 obtain ⟨wA, rfl⟩ : ∃ x : World, x = W0 := ⟨_, rfl⟩
 refine wp_region_held_drew (S := (fun y => Below wA.heap.size wA y)) (by kernel_rfl) ((Below.refl wA.heap.size wA).drew) (fun hH0 => ?_)
 generalize hy0 : World.drew _ = y0 at hH0 ⊢
 have RB0 : Hid (Below wA.heap.size wA y0) := hid hH0
 clear hy0
 refine mvY 0 (v := .agg (ecs E a).toArray) rfl (yieldsIf_load_mid (by rfl) 34 _ rfl w.heap.size 0 rfl (ecs E a) _ (fun w0 hw0 => (X.out.below hw0).range) Tryz.underlying34 rfl size34) ?_
 try simp only [Act.put, lsA, ls0, ls1]
 refine mvY 1 (v := .agg (ecs E a).toArray) rfl (yieldsIf_load_mid (by rfl) 34 _ rfl w.heap.size 0 rfl (ecs E a) _ (fun w0 hw0 => (X.out.below hw0).range) Tryz.underlying34 rfl size34) ?_
 try simp only [Act.put, lsA, ls0, ls1]
 refine mvR 2 rfl (fun KK hKK => ?_)
 go_simp
 (with_reducible refine (HW.out _ (B.out.trans (RB0.out.mono B.out.size))).mono ?_)
 rintro e0 y1 ⟨rfl, hb⟩
 have RB1 := hid (RB0.out.trans (hb.mono RB0.out.size))
 clear hb
 refine hKK.out _ _ (RB1.out) (fun hH1 => ?_)
 clear hKK KK
 try simp only [Act.put, lsA, ls0, ls1]
 refine mvR 3 rfl (fun KK hKK => ?_)
 go_simp
 (with_reducible refine (HV.out _ (B.out.trans (RB1.out.mono B.out.size))).mono ?_)
 rintro e0 y2 ⟨rfl, hb⟩
 have RB2 := hid (RB1.out.trans (hb.mono RB1.out.size))
 clear hb
 refine hKK.out _ _ (RB2.out) (fun hH2 => ?_)
 clear hKK KK
 try simp only [Act.put, lsA, ls0, ls1]
 refine mvA 4 (v := ?hv59) rfl ?hy59 ?hr59
 case hy59 => (intro w hSw; (try dsimp only at hSw); go_simp; (try with_reducible rfl))
 try simp only [Act.put, lsA, ls0, ls1]
 refine wpAnyH_done (by kernel_rfl) ?_ _
 have RBe := hid (show Below wA.heap.size wA y2 from hH2)
 replace X := hid (X.out.below RBe.out)
 replace B := hid (B.out.trans (RBe.out.mono B.out.size))
 clear RBe
 obtain ⟨wB, rfl⟩ : ∃ x : World, x = y2 := ⟨_, rfl⟩
 go_wp2
 go_ret
 exact ⟨rfl, B.out⟩
end Go.Proofs.YtablocpcgknmaaaGreatDoor
namespace Go.Proofs.YtablocpcgknmaaaGreatDoor
open Go.Lib (hid)
open Go Go.RowKit
set_option linter.unusedVariables false
set_option linter.unusedSimpArgs false
set_option maxRecDepth 100000

/-- The form that is kept, and what Receive gives. -/
def kptE (E : Ew) : Ew := if whoB E = true then E else strE E
def rcvI (E : Ew) : Int := verI (kptE E) (whoB (kptE E))
def rcvE (E : Ew) : Ew := if rcvI E = 0 then kptE E else e0
def RcP (E : Ew) (r : Int) (w : World) (e : Ending) (w' : World) : Prop := ∃ b, e = .returned (.tuple #[.agg (ecs E b).toArray, .int .i64 r]) ∧ IsE w' E b ∧ Below w.heap.size w w'
theorem kpt_t {E : Ew} (h : whoB E = true) : kptE E = E := if_pos h
theorem kpt_f {E : Ew} (h : whoB E = false) : kptE E = strE E := if_neg (by rw [h]; decide)
set_option maxHeartbeats 16000000 in
theorem receive29 (E : Ew) (a : Aw) (w : World) (h : IsE w E a) (hs : SmZ E) (hl : Lt w) : Calls Tryz.prog 29 #[.agg (ecs E a).toArray] w (RcP (rcvE E) (rcvI E) w) := by
 unfold RcP
 have BA := hid (((Below.refl w.heap.size w).alloc (Nat.le_refl _) (.cells (ecs E a).toArray 34)).alloc (by simp) (.cells z29.toArray 34))
 have X0 := hid ((blk_new w (ecs E a) 34).alloc (.cells z29.toArray 34))
 have R0 := hid (blk_new2 w (.cells (ecs E a).toArray 34) z29 34)
 have HE := hid h
 have HK := hid (fun y (hb : Below w.heap.size w y) => clone54 E a y (h.below hb) hs.v)
 unfold ClN at HK
 have HW := hid (fun y (hb : Below w.heap.size w y) => whole21 E a y (h.below hb) hs.c)
 have HC := hid (fun y (hb : Below w.heap.size w y) => strip21 E.kd E.c a.c y (h.c.below hb) hs.c.smc (hl.below hb))
 unfold StN at HC
 have HL := hid hl
 have HSM := hid hs
 have HRD := hid (show rcvE E = if rcvI E = 0 then kptE E else e0 from rfl)
 have HRI := hid (show rcvI E = verI (kptE E) (whoB (kptE E)) from rfl)
 clear h hs hl
 generalize hW0 : (w.alloc (.cells (ecs E a).toArray 34)).alloc (.cells z29.toArray 34) = W0 at BA X0 R0
 dsimp only [ecs, z29] at hW0 X0 R0 ⊢
 cases hwb : whoB E
 ·have HKP := hid (kpt_f hwb)
  simp only [hwb] at HW
  rw [HKP.out] at HRD HRI
  have HD := hid (show strE E = E.wc (strip E.kd E.c) from rfl)
  have HSK := hid (str_smz HSM.out)
  generalize strE E = K at HD HRD HRI HSK
  generalize strip E.kd E.c = C2 at HC HD
  have HWK := hid (fun b y (hi : IsE y K b) => whole21 K b y hi HSK.out.c)
  have HVK := hid (fun b y (hi : IsE y K b) (hb : Below w.heap.size w y) => verify58 K b (whoB K) y hi HSK.out (HL.out.below hb))
  generalize whoB K = bk at HRI HWK HVK
  rw [← HRI.out] at HVK
  generalize rcvI E = v at HRD HVK ⊢
  clear hwb
  go_enter Tryz.func29, Tryz.ntmps29
  go_upto_region 2 with (first
   | (refine wpList_load_mid rfl 34 _ rfl w.heap.size 0 rfl (ecs E a) _ X0.out.range Tryz.underlying34 rfl size34 ?_)
   | (go_at_call 54; (with_reducible refine (HK.out W0 BA.out).mono ?_); rintro e w1 ⟨b, rfl, hi, hb, hn⟩; have I1 := hid hi; have N1 := hid (fun g hg => hn g (Nat.lt_of_lt_of_le hg R0.out.lt)); have B1 := hid (BA.out.trans (hb.mono BA.out.size)); have X1 := hid (X0.out.below hb); have R1 := hid (R0.out.below hb); clear hi hn hb HK)
   | (refine store_as34 rfl 34 _ _ rfl z29 (ecs E b) rfl rfl rfl size34 (ecs_one _ _) ?_; intro w2 hx hb; have P2 := hid hx; have I2 := hid (I1.out.below hb); have A2 := hid (I1.out.ap (Nat.le_refl w1.heap.size)); have B2 := hid (B1.out.trans (hb.mono B1.out.size)); have X2 := hid (X1.out.below hb); have R2 := hid (R1.out.below hb); have L2 := hid (R1.out.lt); clear hx hb I1 X1 R1)
   | fail)
  go_upto_region 4 with (first
   | (refine wpList_load_mid rfl 34 _ rfl w.heap.size 0 rfl (ecs E a) _ X2.out.range Tryz.underlying34 rfl size34 ?_)
   | (go_at_call 21; (with_reducible refine (HW.out w2 B2.out).mono ?_); rintro e w3 ⟨rfl, hb⟩; have P3 := hid (P2.out.below hb); have I3 := hid (I2.out.below hb); have B3 := hid (B2.out.trans (hb.mono B2.out.size)); have X3 := hid (X2.out.below hb); have R3 := hid (R2.out.below hb); clear hb HW)
   | fail)
  have y3 := X3.out.cell (i := 3) rfl
  go_upto_region 5 with (first
   | (refine wpList_load_mid rfl 30 _ rfl w.heap.size 10 rfl (ccs E.c a.c) _ (X3.out.mid 10 16) Tryz.underlying30 rfl size29 ?_)
   | (go_at_call 53; (with_reducible refine (HC.out w3 B3.out).mono ?_); rintro e w4 ⟨b1, rfl, hi, hb, hn⟩; have K4 := hid hi; have N4 := hid hn; have P4 := hid (P3.out.below hb); have I4 := hid (I3.out.below hb); have B4 := hid (B3.out.trans (hb.mono B3.out.size)); have R4 := hid (R3.out.below hb); have LP := hid P3.out.lt; have LR := hid R3.out.lt; clear hi hn hb HC y3)
   | (refine store_mid_as rfl 30 _ _ rfl w1.heap.size 10 (ccs C2 b1).toArray rfl rfl (Blk.thereAt P4.out 10 16 (show (10 : Nat) + 16 ≤ 29 by decide)) size29 (by simp [Value.oneCell']) ?_; intro u5 eu; have P := hid (show Blk u5 w1.heap.size (ecs K (b.wc b1)) 34 by rw [eu, HD.out]; exact set_midl (ccs C2 b1) [.int .i64 E.id, .string E.rm, .string E.sd, .int .i64 E.kd, .bool E.st, .string E.ky, .int .i64 E.tm, .int .i64 E.dp, .slice b.pA E.pv.length b.pC, .slice b.qA E.au.length b.qC] (ccs E.c b.c) [.int .i64 E.hs, .string E.sv, .int .i64 E.sm] w4 P4.out rfl); have R := hid (show Blk u5 (w.heap.size + 1) [.int .i64 0, .string ⟨#[]⟩, .string ⟨#[]⟩, .int .i64 0, .bool false, .string ⟨#[]⟩, .int .i64 0, .int .i64 0, .slice none 0 0, .slice none 0 0, .string ⟨#[]⟩, .int .i64 0, .int .i64 0, .bool false, .string ⟨#[]⟩, .slice none 0 0, .slice none 0 0, .slice none 0 0, .slice none 0 0, .int .i64 0, .int .i64 0, .int .i64 0, .int .i64 0, .int .i64 0, .int .i64 0, .int .i64 0, .int .i64 0, .string ⟨#[]⟩, .int .i64 0] 34 by rw [eu]; exact R4.out.otherAll _ _ _ (by have := L2.out; omega)); have Bl := hid (show Below w.heap.size w u5 by rw [eu]; exact below_setAll (by have := L2.out; omega) _ _ _ B4.out); have I5 := hid (show IsE u5 E b by rw [eu]; exact I4.out.otherE _ _ _ A2.out); have K5 := hid (show IsC u5 C2 b1 by rw [eu]; exact K4.out.otherC _ _ _ (N4.out _ LP.out)); clear eu I4 K4 P4 R4 B4)
   | fail)
  have h5 := I5.out
  have I := hid (show IsE u5 K (b.wc b1) by rw [HD.out]; exact { h5 with c := K5.out })
  have AR := hid (show ApE (w.heap.size + 1) K (b.wc b1) by rw [HD.out]; exact ⟨(N1.out _ (by omega)).pv, (N1.out _ (by omega)).au, N4.out _ LR.out⟩)
  clear h5 I5 K5
  go_upto_region 6 with (first
   | (refine wpList_load_mid rfl 34 _ rfl w1.heap.size 0 rfl (ecs K (b.wc b1)) _ P.out.range Tryz.underlying34 rfl size34 ?_)
   | (go_at_call 21; (with_reducible refine (HWK.out (b.wc b1) u5 I.out).mono ?_); rintro e w6 ⟨rfl, hb⟩; replace P := hid (P.out.below hb); replace I := hid (I.out.below hb); replace R := hid (R.out.below hb); replace Bl := hid (Bl.out.trans (hb.mono Bl.out.size)); clear hb)
   | fail)
  have HVF := hid (HVK.out (b.wc b1) w6 I.out Bl.out)
  clear HVK HWK
  by_cases hv : v = 0
  ·subst hv
   have HY := hid (show rcvE E = K by rw [HRD.out]; exact if_pos rfl)
   go_wp2_with (first
    | (refine wpList_load_mid rfl 34 _ rfl w1.heap.size 0 rfl (ecs K (b.wc b1)) _ P.out.range Tryz.underlying34 rfl size34 ?_)
    | (go_at_call 58; (with_reducible refine HVF.out.mono ?_); rintro e wv ⟨rfl, hb⟩; replace P := hid (P.out.below hb); replace I := hid (I.out.below hb); replace R := hid (R.out.below hb); replace Bl := hid (Bl.out.trans (hb.mono Bl.out.size)); clear hb)
    | (refine wpList_load_mid rfl 34 _ rfl w1.heap.size 0 rfl (ecs K (b.wc b1)) _ P.out.range Tryz.underlying34 rfl size34 ?_)
    | (refine store_mid_as rfl 34 _ _ rfl (w.heap.size + 1) 0 (ecs K (b.wc b1)).toArray rfl rfl (Blk.there (n := 29) R.out (Nat.le_refl 29)) size34 (ecs_one _ _) ?_; intro wz ez; have EZ := hid ez; clear ez)
    | fail)
   (try simp only [Exit.inBlock, Exit.then])
   refine bodyPost_ret (results_cell_tmp_blk rfl _ _ (w.heap.size + 1) (ecs K (b.wc b1)) 34 _ rfl (by rw [EZ.out]; exact Blk.setAll R.out _ rfl) Tryz.underlying34 rfl size34) rfl ?_
   rw [EZ.out, HY.out]
   exact ⟨(b.wc b1), rfl, I.out.otherE _ _ _ AR.out, below_setAll (Nat.le_succ _) _ _ _ Bl.out⟩
  ·have HY := hid (show rcvE E = e0 by rw [HRD.out]; exact if_neg hv)
   have z0 : (v == 0) = false := beq_eq_false_iff_ne.2 hv
   have z0b : (v != 0) = true := by simp [bne, z0]
   clear hv
   go_wp2_with (first
    | (refine wpList_load_mid rfl 34 _ rfl w1.heap.size 0 rfl (ecs K (b.wc b1)) _ P.out.range Tryz.underlying34 rfl size34 ?_)
    | (go_at_call 58; (with_reducible refine HVF.out.mono ?_); rintro e wv ⟨rfl, hb⟩; replace R := hid (R.out.below hb); replace Bl := hid (Bl.out.trans (hb.mono Bl.out.size)); clear hb)
    | (refine store_mid_as rfl 34 _ _ rfl (w.heap.size + 1) 0 (#[.int .i64 0, .string ⟨#[]⟩, .string ⟨#[]⟩, .int .i64 0, .bool false, .string ⟨#[]⟩, .int .i64 0, .int .i64 0, .slice none 0 0, .slice none 0 0, .string ⟨#[]⟩, .int .i64 0, .int .i64 0, .bool false, .string ⟨#[]⟩, .slice none 0 0, .slice none 0 0, .slice none 0 0, .slice none 0 0, .int .i64 0, .int .i64 0, .int .i64 0, .int .i64 0, .int .i64 0, .int .i64 0, .int .i64 0, .int .i64 0, .string ⟨#[]⟩, .int .i64 0] : Array Value) rfl rfl (Blk.there (n := 29) R.out (Nat.le_refl 29)) size34 (by simp [Value.oneCell']) ?_; intro wz ez; have EZ := hid ez; clear ez)
    | fail)
   (try simp only [Exit.inBlock, Exit.then])
   refine bodyPost_ret (results_cell_tmp_blk rfl _ _ (w.heap.size + 1) [.int .i64 0, .string ⟨#[]⟩, .string ⟨#[]⟩, .int .i64 0, .bool false, .string ⟨#[]⟩, .int .i64 0, .int .i64 0, .slice none 0 0, .slice none 0 0, .string ⟨#[]⟩, .int .i64 0, .int .i64 0, .bool false, .string ⟨#[]⟩, .slice none 0 0, .slice none 0 0, .slice none 0 0, .slice none 0 0, .int .i64 0, .int .i64 0, .int .i64 0, .int .i64 0, .int .i64 0, .int .i64 0, .int .i64 0, .int .i64 0, .string ⟨#[]⟩, .int .i64 0] 34 _ rfl (by rw [EZ.out]; exact Blk.setAll R.out _ rfl) Tryz.underlying34 rfl size34) rfl ?_
   rw [EZ.out, HY.out]
   exact ⟨aw0, rfl, e0_is _, below_setAll (Nat.le_succ _) _ _ _ Bl.out⟩
 ·have HKP := hid (kpt_t hwb)
  simp only [hwb] at HW
  rw [HKP.out] at HRD HRI
  rw [hwb] at HRI
  have HVK := hid (fun b y (hi : IsE y E b) (hb : Below w.heap.size w y) => verify58 E b true y hi HSM.out (HL.out.below hb))
  rw [← HRI.out] at HVK
  generalize rcvI E = v at HRD HVK ⊢
  clear hwb
  go_enter Tryz.func29, Tryz.ntmps29
  go_upto_region 2 with (first
   | (refine wpList_load_mid rfl 34 _ rfl w.heap.size 0 rfl (ecs E a) _ X0.out.range Tryz.underlying34 rfl size34 ?_)
   | (go_at_call 54; (with_reducible refine (HK.out W0 BA.out).mono ?_); rintro e w1 ⟨b, rfl, hi, hb, hn⟩; have I1 := hid hi; have N1 := hid (fun g hg => hn g (Nat.lt_of_lt_of_le hg R0.out.lt)); have B1 := hid (BA.out.trans (hb.mono BA.out.size)); have X1 := hid (X0.out.below hb); have R1 := hid (R0.out.below hb); clear hi hn hb HK)
   | (refine store_as34 rfl 34 _ _ rfl z29 (ecs E b) rfl rfl rfl size34 (ecs_one _ _) ?_; intro w2 hx hb; have P2 := hid hx; have I2 := hid (I1.out.below hb); have B2 := hid (B1.out.trans (hb.mono B1.out.size)); have X2 := hid (X1.out.below hb); have R2 := hid (R1.out.below hb); clear hx hb I1 X1 R1)
   | fail)
  go_upto_region 6 with (first
   | (refine wpList_load_mid rfl 34 _ rfl w.heap.size 0 rfl (ecs E a) _ X2.out.range Tryz.underlying34 rfl size34 ?_)
   | (go_at_call 21; (with_reducible refine (HW.out w2 B2.out).mono ?_); rintro e w3 ⟨rfl, hb⟩; have P := hid (P2.out.below hb); have I := hid (I2.out.below hb); have Bl := hid (B2.out.trans (hb.mono B2.out.size)); have R := hid (R2.out.below hb); clear hb HW)
   | fail)
  have HVF := hid (HVK.out b w3 I.out Bl.out)
  have AR := hid (N1.out (w.heap.size + 1) (by omega))
  clear HVK
  by_cases hv : v = 0
  ·subst hv
   have HY := hid (show rcvE E = E by rw [HRD.out]; exact if_pos rfl)
   go_wp2_with (first
    | (refine wpList_load_mid rfl 34 _ rfl w1.heap.size 0 rfl (ecs E b) _ P.out.range Tryz.underlying34 rfl size34 ?_)
    | (go_at_call 58; (with_reducible refine HVF.out.mono ?_); rintro e wv ⟨rfl, hb⟩; replace P := hid (P.out.below hb); replace I := hid (I.out.below hb); replace R := hid (R.out.below hb); replace Bl := hid (Bl.out.trans (hb.mono Bl.out.size)); clear hb)
    | (refine wpList_load_mid rfl 34 _ rfl w1.heap.size 0 rfl (ecs E b) _ P.out.range Tryz.underlying34 rfl size34 ?_)
    | (refine store_mid_as rfl 34 _ _ rfl (w.heap.size + 1) 0 (ecs E b).toArray rfl rfl (Blk.there (n := 29) R.out (Nat.le_refl 29)) size34 (ecs_one _ _) ?_; intro wz ez; have EZ := hid ez; clear ez)
    | fail)
   (try simp only [Exit.inBlock, Exit.then])
   refine bodyPost_ret (results_cell_tmp_blk rfl _ _ (w.heap.size + 1) (ecs E b) 34 _ rfl (by rw [EZ.out]; exact Blk.setAll R.out _ rfl) Tryz.underlying34 rfl size34) rfl ?_
   rw [EZ.out, HY.out]
   exact ⟨b, rfl, I.out.otherE _ _ _ AR.out, below_setAll (Nat.le_succ _) _ _ _ Bl.out⟩
  ·have HY := hid (show rcvE E = e0 by rw [HRD.out]; exact if_neg hv)
   have z0 : (v == 0) = false := beq_eq_false_iff_ne.2 hv
   have z0b : (v != 0) = true := by simp [bne, z0]
   clear hv
   go_wp2_with (first
    | (refine wpList_load_mid rfl 34 _ rfl w1.heap.size 0 rfl (ecs E b) _ P.out.range Tryz.underlying34 rfl size34 ?_)
    | (go_at_call 58; (with_reducible refine HVF.out.mono ?_); rintro e wv ⟨rfl, hb⟩; replace R := hid (R.out.below hb); replace Bl := hid (Bl.out.trans (hb.mono Bl.out.size)); clear hb)
    | (refine store_mid_as rfl 34 _ _ rfl (w.heap.size + 1) 0 (#[.int .i64 0, .string ⟨#[]⟩, .string ⟨#[]⟩, .int .i64 0, .bool false, .string ⟨#[]⟩, .int .i64 0, .int .i64 0, .slice none 0 0, .slice none 0 0, .string ⟨#[]⟩, .int .i64 0, .int .i64 0, .bool false, .string ⟨#[]⟩, .slice none 0 0, .slice none 0 0, .slice none 0 0, .slice none 0 0, .int .i64 0, .int .i64 0, .int .i64 0, .int .i64 0, .int .i64 0, .int .i64 0, .int .i64 0, .int .i64 0, .string ⟨#[]⟩, .int .i64 0] : Array Value) rfl rfl (Blk.there (n := 29) R.out (Nat.le_refl 29)) size34 (by simp [Value.oneCell']) ?_; intro wz ez; have EZ := hid ez; clear ez)
    | fail)
   (try simp only [Exit.inBlock, Exit.then])
   refine bodyPost_ret (results_cell_tmp_blk rfl _ _ (w.heap.size + 1) [.int .i64 0, .string ⟨#[]⟩, .string ⟨#[]⟩, .int .i64 0, .bool false, .string ⟨#[]⟩, .int .i64 0, .int .i64 0, .slice none 0 0, .slice none 0 0, .string ⟨#[]⟩, .int .i64 0, .int .i64 0, .bool false, .string ⟨#[]⟩, .slice none 0 0, .slice none 0 0, .slice none 0 0, .slice none 0 0, .int .i64 0, .int .i64 0, .int .i64 0, .int .i64 0, .int .i64 0, .int .i64 0, .int .i64 0, .int .i64 0, .string ⟨#[]⟩, .int .i64 0] 34 _ rfl (by rw [EZ.out]; exact Blk.setAll R.out _ rfl) Tryz.underlying34 rfl size34) rfl ?_
   rw [EZ.out, HY.out]
   exact ⟨aw0, rfl, e0_is _, below_setAll (Nat.le_succ _) _ _ _ Bl.out⟩
end Go.Proofs.YtablocpcgknmaaaGreatDoor
