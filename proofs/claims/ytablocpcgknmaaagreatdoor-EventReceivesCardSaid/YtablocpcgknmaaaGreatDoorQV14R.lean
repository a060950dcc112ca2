/- The reference of Verify. No condition. -/
import Derived.Test.YtablocpcgknmaaaGreatDoorQPh
import Derived.Test.YtablocpcgknmaaaGreatDoorQPo
namespace Go.Proofs.YtablocpcgknmaaaGreatDoor
open Go.Lib (hid)
open Go Go.RowKit
set_option linter.unusedVariables false
set_option linter.unusedSimpArgs false
set_option maxRecDepth 100000

theorem below_same {P : Program} {f : FuncId} {args : Array Value} {v : Ending} {w : World} (h : Calls P f args w fun e w' => e = v ∧ w = w') : Calls P f args w fun e w' => e = v ∧ Below w.heap.size w w' := h.mono fun _ _ ⟨e1, e2⟩ => ⟨e1, by rw [← e2]; exact Below.refl _ _⟩
set_option maxHeartbeats 32000000 in
theorem rverify32 (E : Ew) (a : Aw) (w : World) (h : IsE w E a) (hs : SmZ E) : Calls Tryz.prog 32 #[.agg (ecs E a).toArray] w fun e w' => e = .returned (.int .i64 (verI E (whoB E))) ∧ Below w.heap.size w w' := by
 have BA := hid ((Below.refl w.heap.size w).alloc (Nat.le_refl _) (.cells (ecs E a).toArray 34))
 have X0 := hid (blk_new w (ecs E a) 34)
 have HCK := hid (fun y (hb : Below w.heap.size w y) => rcheck16 E a y (h.below hb))
 have HW := hid (fun y (hb : Below w.heap.size w y) => rwhole22 E a y (h.below hb) hs.c)
 have HST := hid (fun y (hb : Below w.heap.size w y) => rstrip22 E.kd E.c a.c y (h.c.below hb))
 unfold StS at HST
 have HM := hid (fun aL y (hk : IsC y (strip E.kd E.c) aL) (hb : Below w.heap.size w y) => same23 E.c (strip E.kd E.c) a.c aL y (h.c.below hb) hk)
 have HI := hid (fun y (hb : Below w.heap.size w y) => ridOf20 E a y (h.below hb) hs)
 have HV := hid (fun y => below_same (rserverOf_any E.sd h.sd y))
 generalize whoB E = b at HW ⊢
 obtain ⟨r, hr⟩ : ∃ r, verI E b = r := ⟨_, rfl⟩
 have HR := hid hr
 rw [hr]
 unfold verI sigB at HR
 rw [sameC_comm] at HR
 generalize srvA E.sd = xs at HR HV
 generalize idE E = q at HR HI
 generalize chk7 E = k at HR HCK
 obtain ⟨m, hm⟩ : ∃ m, sameC E.c (strip E.kd E.c) = m := ⟨_, rfl⟩
 rw [hm] at HR
 simp only [hm] at HM
 clear hm
 generalize strip E.kd E.c = C2 at HST HM
 clear h hs hr
 generalize hW0 : w.alloc (.cells (ecs E a).toArray 34) = W0 at BA X0
 dsimp only [ecs, z29] at hW0 X0 ⊢
 go_enter Tryz.func32, Tryz.ntmps32
 go_upto_region 2 with (first
  | (refine wpList_load_mid rfl 34 _ rfl w.heap.size 0 rfl (ecs E a) _ X0.out.range Tryz.underlying34 rfl size34 ?_)
  | (go_at_call 16; (with_reducible refine (HCK.out W0 BA.out).mono ?_); rintro e w2 ⟨rfl, hb⟩; have B := hid (BA.out.trans (hb.mono BA.out.size)); have X := hid (X0.out.below hb); clear hb)
  | fail)
 by_cases hk : k = 0
 ·replace HR := hid (show (if (!b && !m) = true then 6 else if (q == E.id) = false then 11 else if ((E.sv.toList == xs.toList) && (E.sm == E.id)) = false then 12 else 0) = r by rw [← HR.out]; exact (if_neg (fun h => h hk)).symm)
  subst hk
  go_upto_region 4 with (fail)
  cases b with
  | true =>
   replace HR := hid (show (if (q == E.id) = false then 11 else if ((E.sv.toList == xs.toList) && (E.sm == E.id)) = false then 12 else 0) = r from HR.out)
   obtain ⟨wA, rfl⟩ : ∃ x : World, x = w2 := ⟨_, rfl⟩
   refine wp_region_held_drew (S := (fun y => Below wA.heap.size wA y)) (by kernel_rfl) ((Below.refl wA.heap.size wA).drew) (fun hH0 => ?_)
   generalize hy0 : World.drew _ = y0 at hH0 ⊢
   have RB0 : Hid (Below wA.heap.size wA y0) := hid hH0
   clear hy0
   refine mvY 0 (v := .agg (ecs E a).toArray) rfl (yieldsIf_load_mid (by rfl) 34 _ rfl w.heap.size 0 rfl (ecs E a) _ (fun w0 hw0 => (X.out.below hw0).range) Tryz.underlying34 rfl size34) ?_
   try simp only [Act.put, lsA, ls0, ls1]
   refine mvR 1 rfl (fun KK hKK => ?_)
   go_simp
   (with_reducible refine (HW.out _ (B.out.trans (RB0.out.mono B.out.size))).mono ?_)
   rintro e0 y1 ⟨rfl, hb⟩
   have RB1 := hid (RB0.out.trans (hb.mono RB0.out.size))
   clear hb
   refine hKK.out _ _ (RB1.out) (fun hH1 => ?_)
   clear hKK KK
   try simp only [Act.put, lsA, ls0, ls1]
   refine mvA 2 (v := ?hv90) rfl ?hy90 ?hr90
   case hy90 => (intro w hSw; (try dsimp only at hSw); go_simp; (try with_reducible rfl))
   try simp only [Act.put, lsA, ls0, ls1]
   refine mvA 3 (v := ?hv91) rfl ?hy91 ?hr91
   case hy91 => (intro w hSw; (try dsimp only at hSw); go_simp; (try with_reducible rfl))
   try simp only [Act.put, lsA, ls0, ls1]
   refine mvU 4 rfl ?_
   try simp only [Act.put, lsA, ls0, ls1]
   refine mvU 5 rfl ?_
   try simp only [Act.put, lsA, ls0, ls1]
   refine mvU 6 rfl ?_
   try simp only [Act.put, lsA, ls0, ls1]
   refine mvU 7 rfl ?_
   try simp only [Act.put, lsA, ls0, ls1]
   refine mvU 8 rfl ?_
   try simp only [Act.put, lsA, ls0, ls1]
   refine mvU 9 rfl ?_
   try simp only [Act.put, lsA, ls0, ls1]
   refine mvR 10 rfl (fun KK hKK => ?_)
   go_simp
   refine hKK.out _ _ (hH1) (fun hH2 => ?_)
   clear hKK KK
   try simp only [Act.put, lsA, ls0, ls1]
   refine mvR 11 rfl (fun KK hKK => ?_)
   go_simp
   refine hKK.out _ _ (hH2) (fun hH3 => ?_)
   clear hKK KK
   try simp only [Act.put, lsA, ls0, ls1]
   refine mvU 12 rfl ?_
   try simp only [Act.put, lsA, ls0, ls1]
   refine mvA 13 (v := ?hv92) rfl ?hy92 ?hr92
   case hy92 => (intro w hSw; (try dsimp only at hSw); go_simp; (try with_reducible rfl))
   try simp only [Act.put, lsA, ls0, ls1]
   refine wpAnyH_done (by kernel_rfl) ?_ _
   have RBe := hid (show Below wA.heap.size wA y1 from hH3)
   replace X := hid (X.out.below RBe.out)
   replace B := hid (B.out.trans (RBe.out.mono B.out.size))
   clear RBe
   obtain ⟨wB, rfl⟩ : ∃ x : World, x = y1 := ⟨_, rfl⟩
   go_upto_region 6 with (fail)
   cases s0 : (q == E.id)
   ·have s0b : (q != E.id) = true := by simp [bne, s0]
    have HX := hid (show r = 11 by rw [← HR.out, s0]; rfl)
    obtain ⟨wA, rfl⟩ : ∃ x : World, x = wB := ⟨_, rfl⟩
    refine wp_region_held_drew (S := (fun y => Below wA.heap.size wA y)) (by kernel_rfl) ((Below.refl wA.heap.size wA).drew) (fun hH0 => ?_)
    generalize hy0 : World.drew _ = y0 at hH0 ⊢
    have RB0 : Hid (Below wA.heap.size wA y0) := hid hH0
    clear hy0
    refine mvY 0 (v := .agg (ecs E a).toArray) rfl (yieldsIf_load_mid (by rfl) 34 _ rfl w.heap.size 0 rfl (ecs E a) _ (fun w0 hw0 => (X.out.below hw0).range) Tryz.underlying34 rfl size34) ?_
    try simp only [Act.put, lsA, ls0, ls1]
    refine mvA 2 (v := ?hv60) rfl ?hy60 ?hr60
    case hy60 => (intro w hSw; (try dsimp only at hSw); go_simp; (try with_reducible rfl))
    try simp only [Act.put, lsA, ls0, ls1]
    refine mvA 3 (v := .int .i64 E.id) rfl (fun w0 hw0 => by have q0 := (X.out.below hw0).cell (i := 0) rfl; go_simp) ?_
    try simp only [Act.put, lsA, ls0, ls1]
    refine mvR 1 rfl (fun KK hKK => ?_)
    go_simp
    (with_reducible refine (HI.out _ (B.out.trans (RB0.out.mono B.out.size))).mono ?_)
    rintro e0 y1 ⟨rfl, hb⟩
    have RB1 := hid (RB0.out.trans (hb.mono RB0.out.size))
    clear hb
    refine hKK.out _ _ (RB1.out) (fun hH1 => ?_)
    clear hKK KK
    try simp only [Act.put, lsA, ls0, ls1]
    refine mvA 4 (v := ?hv61) rfl ?hy61 ?hr61
    case hy61 => (intro w hSw; (try dsimp only at hSw); go_simp; (try with_reducible rfl))
    try simp only [Act.put, lsA, ls0, ls1]
    refine wpAnyH_done (by kernel_rfl) ?_ _
    have RBe := hid (show Below wA.heap.size wA y1 from hH1)
    replace X := hid (X.out.below RBe.out)
    replace B := hid (B.out.trans (RBe.out.mono B.out.size))
    clear RBe
    obtain ⟨wB, rfl⟩ : ∃ x : World, x = y1 := ⟨_, rfl⟩
    go_wp2
    go_ret
    exact ⟨ret_i HX.out, B.out⟩
   ·have s0b : (q != E.id) = false := by simp [bne, s0]
    replace HR := hid (show (if ((E.sv.toList == xs.toList) && (E.sm == E.id)) = false then 12 else 0) = r by rw [← HR.out, s0]; rfl)
    obtain ⟨wA, rfl⟩ : ∃ x : World, x = wB := ⟨_, rfl⟩
    refine wp_region_held_drew (S := (fun y => Below wA.heap.size wA y)) (by kernel_rfl) ((Below.refl wA.heap.size wA).drew) (fun hH0 => ?_)
    generalize hy0 : World.drew _ = y0 at hH0 ⊢
    have RB0 : Hid (Below wA.heap.size wA y0) := hid hH0
    clear hy0
    refine mvY 0 (v := .agg (ecs E a).toArray) rfl (yieldsIf_load_mid (by rfl) 34 _ rfl w.heap.size 0 rfl (ecs E a) _ (fun w0 hw0 => (X.out.below hw0).range) Tryz.underlying34 rfl size34) ?_
    try simp only [Act.put, lsA, ls0, ls1]
    refine mvA 2 (v := ?hv88) rfl ?hy88 ?hr88
    case hy88 => (intro w hSw; (try dsimp only at hSw); go_simp; (try with_reducible rfl))
    try simp only [Act.put, lsA, ls0, ls1]
    refine mvA 3 (v := .int .i64 E.id) rfl (fun w0 hw0 => by have q0 := (X.out.below hw0).cell (i := 0) rfl; go_simp) ?_
    try simp only [Act.put, lsA, ls0, ls1]
    refine mvR 1 rfl (fun KK hKK => ?_)
    go_simp
    (with_reducible refine (HI.out _ (B.out.trans (RB0.out.mono B.out.size))).mono ?_)
    rintro e0 y1 ⟨rfl, hb⟩
    have RB1 := hid (RB0.out.trans (hb.mono RB0.out.size))
    clear hb
    refine hKK.out _ _ (RB1.out) (fun hH1 => ?_)
    clear hKK KK
    try simp only [Act.put, lsA, ls0, ls1]
    refine mvA 4 (v := ?hv89) rfl ?hy89 ?hr89
    case hy89 => (intro w hSw; (try dsimp only at hSw); go_simp; (try with_reducible rfl))
    try simp only [Act.put, lsA, ls0, ls1]
    refine wpAnyH_done (by kernel_rfl) ?_ _
    have RBe := hid (show Below wA.heap.size wA y1 from hH1)
    replace X := hid (X.out.below RBe.out)
    replace B := hid (B.out.trans (RBe.out.mono B.out.size))
    clear RBe
    obtain ⟨wB, rfl⟩ : ∃ x : World, x = y1 := ⟨_, rfl⟩
    go_upto_region 8 with (fail)
    clear s0 s0b
    cases s1 : (E.sv.toList == xs.toList)
    ·have s1b : (E.sv.toList != xs.toList) = true := by simp [bne, s1]
     have HX := hid (show r = 12 by rw [← HR.out, s1]; rfl)
     obtain ⟨wA, rfl⟩ : ∃ x : World, x = wB := ⟨_, rfl⟩
     refine wp_region_held_drew (S := (fun y => Below wA.heap.size wA y)) (by kernel_rfl) ((Below.refl wA.heap.size wA).drew) (fun hH0 => ?_)
     generalize hy0 : World.drew _ = y0 at hH0 ⊢
     have RB0 : Hid (Below wA.heap.size wA y0) := hid hH0
     clear hy0
     refine mvA 0 (v := ?hv62) rfl ?hy62 ?hr62
     case hy62 => (intro w hSw; (try dsimp only at hSw); go_simp; (try with_reducible rfl))
     try simp only [Act.put, lsA, ls0, ls1]
     refine mvA 1 (v := ?hv63) rfl ?hy63 ?hr63
     case hy63 => (intro w hSw; (try dsimp only at hSw); go_simp; (try with_reducible rfl))
     try simp only [Act.put, lsA, ls0, ls1]
     refine mvA 2 (v := .string E.sv) rfl (fun w0 hw0 => by have q0 := (X.out.below hw0).cell (i := 27) rfl; go_simp) ?_
     try simp only [Act.put, lsA, ls0, ls1]
     refine mvA 3 (v := ?hv64) rfl ?hy64 ?hr64
     case hy64 => (intro w hSw; (try dsimp only at hSw); go_simp; (try with_reducible rfl))
     try simp only [Act.put, lsA, ls0, ls1]
     refine mvA 4 (v := .string E.sd) rfl (fun w0 hw0 => by have q0 := (X.out.below hw0).cell (i := 2) rfl; go_simp) ?_
     try simp only [Act.put, lsA, ls0, ls1]
     refine mvR 5 rfl (fun KK hKK => ?_)
     go_simp
     (with_reducible refine (HV.out _).mono ?_)
     rintro e0 y1 ⟨rfl, hb⟩
     have RB1 := hid (RB0.out.trans (hb.mono RB0.out.size))
     clear hb
     refine hKK.out _ _ (RB1.out) (fun hH1 => ?_)
     clear hKK KK
     try simp only [Act.put, lsA, ls0, ls1]
     refine mvA 6 (v := ?hv65) rfl ?hy65 ?hr65
     case hy65 => (intro w hSw; (try dsimp only at hSw); go_simp; (try with_reducible rfl))
     try simp only [Act.put, lsA, ls0, ls1]
     refine mvA 7 (v := ?hv66) rfl ?hy66 ?hr66
     case hy66 => (intro w hSw; (try dsimp only at hSw); go_simp; (try with_reducible rfl))
     try simp only [Act.put, lsA, ls0, ls1]
     refine mvU 8 rfl ?_
     try simp only [Act.put, lsA, ls0, ls1]
     refine mvU 9 rfl ?_
     try simp only [Act.put, lsA, ls0, ls1]
     refine mvU 10 rfl ?_
     try simp only [Act.put, lsA, ls0, ls1]
     refine mvU 11 rfl ?_
     try simp only [Act.put, lsA, ls0, ls1]
     refine mvU 12 rfl ?_
     try simp only [Act.put, lsA, ls0, ls1]
     refine mvU 13 rfl ?_
     try simp only [Act.put, lsA, ls0, ls1]
     refine mvA 14 (v := ?hv67) rfl ?hy67 ?hr67
     case hy67 => (intro w hSw; (try dsimp only at hSw); go_simp; (try with_reducible rfl))
     try simp only [Act.put, lsA, ls0, ls1]
     refine wpAnyH_done (by kernel_rfl) ?_ _
     have RBe := hid (show Below wA.heap.size wA y1 from hH1)
     replace X := hid (X.out.below RBe.out)
     replace B := hid (B.out.trans (RBe.out.mono B.out.size))
     clear RBe
     obtain ⟨wB, rfl⟩ : ∃ x : World, x = y1 := ⟨_, rfl⟩
     go_wp2
     go_ret
     exact ⟨ret_i HX.out, B.out⟩
    ·have s1b : (E.sv.toList != xs.toList) = false := by simp [bne, s1]
     cases s2 : (E.sm == E.id)
     ·have s2b : (E.sm != E.id) = true := by simp [bne, s2]
      have HX := hid (show r = 12 by rw [← HR.out, s1, s2]; rfl)
      obtain ⟨wA, rfl⟩ : ∃ x : World, x = wB := ⟨_, rfl⟩
      refine wp_region_held_drew (S := (fun y => Below wA.heap.size wA y)) (by kernel_rfl) ((Below.refl wA.heap.size wA).drew) (fun hH0 => ?_)
      generalize hy0 : World.drew _ = y0 at hH0 ⊢
      have RB0 : Hid (Below wA.heap.size wA y0) := hid hH0
      clear hy0
      refine mvA 0 (v := ?hv68) rfl ?hy68 ?hr68
      case hy68 => (intro w hSw; (try dsimp only at hSw); go_simp; (try with_reducible rfl))
      try simp only [Act.put, lsA, ls0, ls1]
      refine mvA 1 (v := ?hv69) rfl ?hy69 ?hr69
      case hy69 => (intro w hSw; (try dsimp only at hSw); go_simp; (try with_reducible rfl))
      try simp only [Act.put, lsA, ls0, ls1]
      refine mvA 2 (v := .string E.sv) rfl (fun w0 hw0 => by have q0 := (X.out.below hw0).cell (i := 27) rfl; go_simp) ?_
      try simp only [Act.put, lsA, ls0, ls1]
      refine mvA 3 (v := ?hv70) rfl ?hy70 ?hr70
      case hy70 => (intro w hSw; (try dsimp only at hSw); go_simp; (try with_reducible rfl))
      try simp only [Act.put, lsA, ls0, ls1]
      refine mvA 4 (v := .string E.sd) rfl (fun w0 hw0 => by have q0 := (X.out.below hw0).cell (i := 2) rfl; go_simp) ?_
      try simp only [Act.put, lsA, ls0, ls1]
      refine mvR 5 rfl (fun KK hKK => ?_)
      go_simp
      (with_reducible refine (HV.out _).mono ?_)
      rintro e0 y1 ⟨rfl, hb⟩
      have RB1 := hid (RB0.out.trans (hb.mono RB0.out.size))
      clear hb
      refine hKK.out _ _ (RB1.out) (fun hH1 => ?_)
      clear hKK KK
      try simp only [Act.put, lsA, ls0, ls1]
      refine mvA 6 (v := ?hv71) rfl ?hy71 ?hr71
      case hy71 => (intro w hSw; (try dsimp only at hSw); go_simp; (try with_reducible rfl))
      try simp only [Act.put, lsA, ls0, ls1]
      refine mvA 7 (v := ?hv72) rfl ?hy72 ?hr72
      case hy72 => (intro w hSw; (try dsimp only at hSw); go_simp; (try with_reducible rfl))
      try simp only [Act.put, lsA, ls0, ls1]
      refine mvA 8 (v := ?hv73) rfl ?hy73 ?hr73
      case hy73 => (intro w hSw; (try dsimp only at hSw); go_simp; (try with_reducible rfl))
      try simp only [Act.put, lsA, ls0, ls1]
      refine mvA 9 (v := ?hv74) rfl ?hy74 ?hr74
      case hy74 => (intro w hSw; (try dsimp only at hSw); go_simp; (try with_reducible rfl))
      try simp only [Act.put, lsA, ls0, ls1]
      refine mvA 10 (v := .int .i64 E.sm) rfl (fun w0 hw0 => by have q0 := (X.out.below hw0).cell (i := 28) rfl; go_simp) ?_
      try simp only [Act.put, lsA, ls0, ls1]
      refine mvA 11 (v := ?hv75) rfl ?hy75 ?hr75
      case hy75 => (intro w hSw; (try dsimp only at hSw); go_simp; (try with_reducible rfl))
      try simp only [Act.put, lsA, ls0, ls1]
      refine mvA 12 (v := .int .i64 E.id) rfl (fun w0 hw0 => by have q0 := (X.out.below hw0).cell (i := 0) rfl; go_simp) ?_
      try simp only [Act.put, lsA, ls0, ls1]
      refine mvA 13 (v := ?hv76) rfl ?hy76 ?hr76
      case hy76 => (intro w hSw; (try dsimp only at hSw); go_simp; (try with_reducible rfl))
      try simp only [Act.put, lsA, ls0, ls1]
      refine mvA 14 (v := ?hv77) rfl ?hy77 ?hr77
      case hy77 => (intro w hSw; (try dsimp only at hSw); go_simp; (try with_reducible rfl))
      try simp only [Act.put, lsA, ls0, ls1]
      refine wpAnyH_done (by kernel_rfl) ?_ _
      have RBe := hid (show Below wA.heap.size wA y1 from hH1)
      replace X := hid (X.out.below RBe.out)
      replace B := hid (B.out.trans (RBe.out.mono B.out.size))
      clear RBe
      obtain ⟨wB, rfl⟩ : ∃ x : World, x = y1 := ⟨_, rfl⟩
      go_wp2
      go_ret
      exact ⟨ret_i HX.out, B.out⟩
     ·have s2b : (E.sm != E.id) = false := by simp [bne, s2]
      have HX := hid (show r = 0 by rw [← HR.out, s1, s2]; rfl)
      obtain ⟨wA, rfl⟩ : ∃ x : World, x = wB := ⟨_, rfl⟩
      refine wp_region_held_drew (S := (fun y => Below wA.heap.size wA y)) (by kernel_rfl) ((Below.refl wA.heap.size wA).drew) (fun hH0 => ?_)
      generalize hy0 : World.drew _ = y0 at hH0 ⊢
      have RB0 : Hid (Below wA.heap.size wA y0) := hid hH0
      clear hy0
      refine mvA 0 (v := ?hv78) rfl ?hy78 ?hr78
      case hy78 => (intro w hSw; (try dsimp only at hSw); go_simp; (try with_reducible rfl))
      try simp only [Act.put, lsA, ls0, ls1]
      refine mvA 1 (v := ?hv79) rfl ?hy79 ?hr79
      case hy79 => (intro w hSw; (try dsimp only at hSw); go_simp; (try with_reducible rfl))
      try simp only [Act.put, lsA, ls0, ls1]
      refine mvA 2 (v := .string E.sv) rfl (fun w0 hw0 => by have q0 := (X.out.below hw0).cell (i := 27) rfl; go_simp) ?_
      try simp only [Act.put, lsA, ls0, ls1]
      refine mvA 3 (v := ?hv80) rfl ?hy80 ?hr80
      case hy80 => (intro w hSw; (try dsimp only at hSw); go_simp; (try with_reducible rfl))
      try simp only [Act.put, lsA, ls0, ls1]
      refine mvA 4 (v := .string E.sd) rfl (fun w0 hw0 => by have q0 := (X.out.below hw0).cell (i := 2) rfl; go_simp) ?_
      try simp only [Act.put, lsA, ls0, ls1]
      refine mvR 5 rfl (fun KK hKK => ?_)
      go_simp
      (with_reducible refine (HV.out _).mono ?_)
      rintro e0 y1 ⟨rfl, hb⟩
      have RB1 := hid (RB0.out.trans (hb.mono RB0.out.size))
      clear hb
      refine hKK.out _ _ (RB1.out) (fun hH1 => ?_)
      clear hKK KK
      try simp only [Act.put, lsA, ls0, ls1]
      refine mvA 6 (v := ?hv81) rfl ?hy81 ?hr81
      case hy81 => (intro w hSw; (try dsimp only at hSw); go_simp; (try with_reducible rfl))
      try simp only [Act.put, lsA, ls0, ls1]
      refine mvA 7 (v := ?hv82) rfl ?hy82 ?hr82
      case hy82 => (intro w hSw; (try dsimp only at hSw); go_simp; (try with_reducible rfl))
      try simp only [Act.put, lsA, ls0, ls1]
      refine mvA 8 (v := ?hv83) rfl ?hy83 ?hr83
      case hy83 => (intro w hSw; (try dsimp only at hSw); go_simp; (try with_reducible rfl))
      try simp only [Act.put, lsA, ls0, ls1]
      refine mvA 9 (v := ?hv84) rfl ?hy84 ?hr84
      case hy84 => (intro w hSw; (try dsimp only at hSw); go_simp; (try with_reducible rfl))
      try simp only [Act.put, lsA, ls0, ls1]
      refine mvA 10 (v := .int .i64 E.sm) rfl (fun w0 hw0 => by have q0 := (X.out.below hw0).cell (i := 28) rfl; go_simp) ?_
      try simp only [Act.put, lsA, ls0, ls1]
      refine mvA 11 (v := ?hv85) rfl ?hy85 ?hr85
      case hy85 => (intro w hSw; (try dsimp only at hSw); go_simp; (try with_reducible rfl))
      try simp only [Act.put, lsA, ls0, ls1]
      refine mvA 12 (v := .int .i64 E.id) rfl (fun w0 hw0 => by have q0 := (X.out.below hw0).cell (i := 0) rfl; go_simp) ?_
      try simp only [Act.put, lsA, ls0, ls1]
      refine mvA 13 (v := ?hv86) rfl ?hy86 ?hr86
      case hy86 => (intro w hSw; (try dsimp only at hSw); go_simp; (try with_reducible rfl))
      try simp only [Act.put, lsA, ls0, ls1]
      refine mvA 14 (v := ?hv87) rfl ?hy87 ?hr87
      case hy87 => (intro w hSw; (try dsimp only at hSw); go_simp; (try with_reducible rfl))
      try simp only [Act.put, lsA, ls0, ls1]
      refine wpAnyH_done (by kernel_rfl) ?_ _
      have RBe := hid (show Below wA.heap.size wA y1 from hH1)
      replace X := hid (X.out.below RBe.out)
      replace B := hid (B.out.trans (RBe.out.mono B.out.size))
      clear RBe
      obtain ⟨wB, rfl⟩ : ∃ x : World, x = y1 := ⟨_, rfl⟩
      go_wp2
      go_ret
      exact ⟨ret_i HX.out, B.out⟩
  | false =>
   cases m with
   | false =>
    have HX := hid (show r = 6 from HR.out.symm)
    obtain ⟨wA, rfl⟩ : ∃ x : World, x = w2 := ⟨_, rfl⟩
    refine wp_region_held_drew (S := (fun y => Below wA.heap.size wA y)) (by kernel_rfl) ((Below.refl wA.heap.size wA).drew) (fun hH0 => ?_)
    generalize hy0 : World.drew _ = y0 at hH0 ⊢
    have RB0 : Hid (Below wA.heap.size wA y0) := hid hH0
    clear hy0
    refine mvY 0 (v := .agg (ecs E a).toArray) rfl (yieldsIf_load_mid (by rfl) 34 _ rfl w.heap.size 0 rfl (ecs E a) _ (fun w0 hw0 => (X.out.below hw0).range) Tryz.underlying34 rfl size34) ?_
    try simp only [Act.put, lsA, ls0, ls1]
    refine mvR 1 rfl (fun KK hKK => ?_)
    go_simp
    (with_reducible refine (HW.out _ (B.out.trans (RB0.out.mono B.out.size))).mono ?_)
    rintro e0 y1 ⟨rfl, hb⟩
    have RB1 := hid (RB0.out.trans (hb.mono RB0.out.size))
    clear hb
    refine hKK.out _ _ (RB1.out) (fun hH1 => ?_)
    clear hKK KK
    try simp only [Act.put, lsA, ls0, ls1]
    refine mvA 2 (v := ?hv93) rfl ?hy93 ?hr93
    case hy93 => (intro w hSw; (try dsimp only at hSw); go_simp; (try with_reducible rfl))
    try simp only [Act.put, lsA, ls0, ls1]
    refine mvA 3 (v := ?hv94) rfl ?hy94 ?hr94
    case hy94 => (intro w hSw; (try dsimp only at hSw); go_simp; (try with_reducible rfl))
    try simp only [Act.put, lsA, ls0, ls1]
    refine mvA 4 (v := ?hv95) rfl ?hy95 ?hr95
    case hy95 => (intro w hSw; (try dsimp only at hSw); go_simp; (try with_reducible rfl))
    try simp only [Act.put, lsA, ls0, ls1]
    refine mvY 5 (v := .agg (ccs E.c a.c).toArray) rfl (yieldsIf_load_mid (by rfl) 30 _ rfl w.heap.size 10 rfl (ccs E.c a.c) _ (fun w0 hw0 => (X.out.below hw0).mid 10 16) Tryz.underlying30 rfl size29) ?_
    try simp only [Act.put, lsA, ls0, ls1]
    refine mvA 6 (v := ?hv96) rfl ?hy96 ?hr96
    case hy96 => (intro w hSw; (try dsimp only at hSw); go_simp; (try with_reducible rfl))
    try simp only [Act.put, lsA, ls0, ls1]
    refine mvA 7 (v := .int .i64 E.kd) rfl (fun w0 hw0 => by have q0 := (X.out.below hw0).cell (i := 3) rfl; go_simp) ?_
    try simp only [Act.put, lsA, ls0, ls1]
    refine mvA 8 (v := ?hv97) rfl ?hy97 ?hr97
    case hy97 => (intro w hSw; (try dsimp only at hSw); go_simp; (try with_reducible rfl))
    try simp only [Act.put, lsA, ls0, ls1]
    refine mvY 9 (v := .agg (ccs E.c a.c).toArray) rfl (yieldsIf_load_mid (by rfl) 30 _ rfl w.heap.size 10 rfl (ccs E.c a.c) _ (fun w0 hw0 => (X.out.below hw0).mid 10 16) Tryz.underlying30 rfl size29) ?_
    try simp only [Act.put, lsA, ls0, ls1]
    refine mvR 10 rfl (fun KK hKK => ?_)
    go_simp
    (with_reducible refine (HST.out _ (B.out.trans (RB1.out.mono B.out.size))).mono ?_)
    rintro e0 y2 ⟨aL, rfl, hi, hb, hn⟩
    have RB2 := hid (RB1.out.trans (hb.mono RB1.out.size))
    have K4 := hid hi
    clear hi hn
    clear hb
    refine hKK.out _ _ (RB2.out) (fun hH2 => ?_)
    clear hKK KK
    try simp only [Act.put, lsA, ls0, ls1]
    refine mvR 11 rfl (fun KK hKK => ?_)
    go_simp
    (with_reducible refine (HM.out aL _ K4.out (B.out.trans (RB2.out.mono B.out.size))).mono ?_)
    rintro e0 y3 ⟨rfl, hb⟩
    have RB3 := hid (RB2.out.trans (hb.mono RB2.out.size))
    clear hb
    refine hKK.out _ _ (RB3.out) (fun hH3 => ?_)
    clear hKK KK
    try simp only [Act.put, lsA, ls0, ls1]
    refine mvA 12 (v := ?hv98) rfl ?hy98 ?hr98
    case hy98 => (intro w hSw; (try dsimp only at hSw); go_simp; (try with_reducible rfl))
    try simp only [Act.put, lsA, ls0, ls1]
    refine mvA 13 (v := ?hv99) rfl ?hy99 ?hr99
    case hy99 => (intro w hSw; (try dsimp only at hSw); go_simp; (try with_reducible rfl))
    try simp only [Act.put, lsA, ls0, ls1]
    refine wpAnyH_done (by kernel_rfl) ?_ _
    have RBe := hid (show Below wA.heap.size wA y3 from hH3)
    replace X := hid (X.out.below RBe.out)
    replace B := hid (B.out.trans (RBe.out.mono B.out.size))
    clear RBe
    obtain ⟨wB, rfl⟩ : ∃ x : World, x = y3 := ⟨_, rfl⟩
    go_wp2
    go_ret
    exact ⟨ret_i HX.out, B.out⟩
   | true =>
    replace HR := hid (show (if (q == E.id) = false then 11 else if ((E.sv.toList == xs.toList) && (E.sm == E.id)) = false then 12 else 0) = r from HR.out)
    obtain ⟨wA, rfl⟩ : ∃ x : World, x = w2 := ⟨_, rfl⟩
    refine wp_region_held_drew (S := (fun y => Below wA.heap.size wA y)) (by kernel_rfl) ((Below.refl wA.heap.size wA).drew) (fun hH0 => ?_)
    generalize hy0 : World.drew _ = y0 at hH0 ⊢
    have RB0 : Hid (Below wA.heap.size wA y0) := hid hH0
    clear hy0
    refine mvY 0 (v := .agg (ecs E a).toArray) rfl (yieldsIf_load_mid (by rfl) 34 _ rfl w.heap.size 0 rfl (ecs E a) _ (fun w0 hw0 => (X.out.below hw0).range) Tryz.underlying34 rfl size34) ?_
    try simp only [Act.put, lsA, ls0, ls1]
    refine mvR 1 rfl (fun KK hKK => ?_)
    go_simp
    (with_reducible refine (HW.out _ (B.out.trans (RB0.out.mono B.out.size))).mono ?_)
    rintro e0 y1 ⟨rfl, hb⟩
    have RB1 := hid (RB0.out.trans (hb.mono RB0.out.size))
    clear hb
    refine hKK.out _ _ (RB1.out) (fun hH1 => ?_)
    clear hKK KK
    try simp only [Act.put, lsA, ls0, ls1]
    refine mvA 2 (v := ?hv130) rfl ?hy130 ?hr130
    case hy130 => (intro w hSw; (try dsimp only at hSw); go_simp; (try with_reducible rfl))
    try simp only [Act.put, lsA, ls0, ls1]
    refine mvA 3 (v := ?hv131) rfl ?hy131 ?hr131
    case hy131 => (intro w hSw; (try dsimp only at hSw); go_simp; (try with_reducible rfl))
    try simp only [Act.put, lsA, ls0, ls1]
    refine mvA 4 (v := ?hv132) rfl ?hy132 ?hr132
    case hy132 => (intro w hSw; (try dsimp only at hSw); go_simp; (try with_reducible rfl))
    try simp only [Act.put, lsA, ls0, ls1]
    refine mvY 5 (v := .agg (ccs E.c a.c).toArray) rfl (yieldsIf_load_mid (by rfl) 30 _ rfl w.heap.size 10 rfl (ccs E.c a.c) _ (fun w0 hw0 => (X.out.below hw0).mid 10 16) Tryz.underlying30 rfl size29) ?_
    try simp only [Act.put, lsA, ls0, ls1]
    refine mvA 6 (v := ?hv133) rfl ?hy133 ?hr133
    case hy133 => (intro w hSw; (try dsimp only at hSw); go_simp; (try with_reducible rfl))
    try simp only [Act.put, lsA, ls0, ls1]
    refine mvA 7 (v := .int .i64 E.kd) rfl (fun w0 hw0 => by have q0 := (X.out.below hw0).cell (i := 3) rfl; go_simp) ?_
    try simp only [Act.put, lsA, ls0, ls1]
    refine mvA 8 (v := ?hv134) rfl ?hy134 ?hr134
    case hy134 => (intro w hSw; (try dsimp only at hSw); go_simp; (try with_reducible rfl))
    try simp only [Act.put, lsA, ls0, ls1]
    refine mvY 9 (v := .agg (ccs E.c a.c).toArray) rfl (yieldsIf_load_mid (by rfl) 30 _ rfl w.heap.size 10 rfl (ccs E.c a.c) _ (fun w0 hw0 => (X.out.below hw0).mid 10 16) Tryz.underlying30 rfl size29) ?_
    try simp only [Act.put, lsA, ls0, ls1]
    refine mvR 10 rfl (fun KK hKK => ?_)
    go_simp
    (with_reducible refine (HST.out _ (B.out.trans (RB1.out.mono B.out.size))).mono ?_)
    rintro e0 y2 ⟨aL, rfl, hi, hb, hn⟩
    have RB2 := hid (RB1.out.trans (hb.mono RB1.out.size))
    have K4 := hid hi
    clear hi hn
    clear hb
    refine hKK.out _ _ (RB2.out) (fun hH2 => ?_)
    clear hKK KK
    try simp only [Act.put, lsA, ls0, ls1]
    refine mvR 11 rfl (fun KK hKK => ?_)
    go_simp
    (with_reducible refine (HM.out aL _ K4.out (B.out.trans (RB2.out.mono B.out.size))).mono ?_)
    rintro e0 y3 ⟨rfl, hb⟩
    have RB3 := hid (RB2.out.trans (hb.mono RB2.out.size))
    clear hb
    refine hKK.out _ _ (RB3.out) (fun hH3 => ?_)
    clear hKK KK
    try simp only [Act.put, lsA, ls0, ls1]
    refine mvA 12 (v := ?hv135) rfl ?hy135 ?hr135
    case hy135 => (intro w hSw; (try dsimp only at hSw); go_simp; (try with_reducible rfl))
    try simp only [Act.put, lsA, ls0, ls1]
    refine mvA 13 (v := ?hv136) rfl ?hy136 ?hr136
    case hy136 => (intro w hSw; (try dsimp only at hSw); go_simp; (try with_reducible rfl))
    try simp only [Act.put, lsA, ls0, ls1]
    refine wpAnyH_done (by kernel_rfl) ?_ _
    have RBe := hid (show Below wA.heap.size wA y3 from hH3)
    replace X := hid (X.out.below RBe.out)
    replace B := hid (B.out.trans (RBe.out.mono B.out.size))
    clear RBe
    obtain ⟨wB, rfl⟩ : ∃ x : World, x = y3 := ⟨_, rfl⟩
    go_upto_region 6 with (fail)
    cases s0 : (q == E.id)
    ·have s0b : (q != E.id) = true := by simp [bne, s0]
     have HX := hid (show r = 11 by rw [← HR.out, s0]; rfl)
     obtain ⟨wA, rfl⟩ : ∃ x : World, x = wB := ⟨_, rfl⟩
     refine wp_region_held_drew (S := (fun y => Below wA.heap.size wA y)) (by kernel_rfl) ((Below.refl wA.heap.size wA).drew) (fun hH0 => ?_)
     generalize hy0 : World.drew _ = y0 at hH0 ⊢
     have RB0 : Hid (Below wA.heap.size wA y0) := hid hH0
     clear hy0
     refine mvY 0 (v := .agg (ecs E a).toArray) rfl (yieldsIf_load_mid (by rfl) 34 _ rfl w.heap.size 0 rfl (ecs E a) _ (fun w0 hw0 => (X.out.below hw0).range) Tryz.underlying34 rfl size34) ?_
     try simp only [Act.put, lsA, ls0, ls1]
     refine mvA 2 (v := ?hv100) rfl ?hy100 ?hr100
     case hy100 => (intro w hSw; (try dsimp only at hSw); go_simp; (try with_reducible rfl))
     try simp only [Act.put, lsA, ls0, ls1]
     refine mvA 3 (v := .int .i64 E.id) rfl (fun w0 hw0 => by have q0 := (X.out.below hw0).cell (i := 0) rfl; go_simp) ?_
     try simp only [Act.put, lsA, ls0, ls1]
     refine mvR 1 rfl (fun KK hKK => ?_)
     go_simp
     (with_reducible refine (HI.out _ (B.out.trans (RB0.out.mono B.out.size))).mono ?_)
     rintro e0 y1 ⟨rfl, hb⟩
     have RB1 := hid (RB0.out.trans (hb.mono RB0.out.size))
     clear hb
     refine hKK.out _ _ (RB1.out) (fun hH1 => ?_)
     clear hKK KK
     try simp only [Act.put, lsA, ls0, ls1]
     refine mvA 4 (v := ?hv101) rfl ?hy101 ?hr101
     case hy101 => (intro w hSw; (try dsimp only at hSw); go_simp; (try with_reducible rfl))
     try simp only [Act.put, lsA, ls0, ls1]
     refine wpAnyH_done (by kernel_rfl) ?_ _
     have RBe := hid (show Below wA.heap.size wA y1 from hH1)
     replace X := hid (X.out.below RBe.out)
     replace B := hid (B.out.trans (RBe.out.mono B.out.size))
     clear RBe
     obtain ⟨wB, rfl⟩ : ∃ x : World, x = y1 := ⟨_, rfl⟩
     go_wp2
     go_ret
     exact ⟨ret_i HX.out, B.out⟩
    ·have s0b : (q != E.id) = false := by simp [bne, s0]
     replace HR := hid (show (if ((E.sv.toList == xs.toList) && (E.sm == E.id)) = false then 12 else 0) = r by rw [← HR.out, s0]; rfl)
     obtain ⟨wA, rfl⟩ : ∃ x : World, x = wB := ⟨_, rfl⟩
     refine wp_region_held_drew (S := (fun y => Below wA.heap.size wA y)) (by kernel_rfl) ((Below.refl wA.heap.size wA).drew) (fun hH0 => ?_)
     generalize hy0 : World.drew _ = y0 at hH0 ⊢
     have RB0 : Hid (Below wA.heap.size wA y0) := hid hH0
     clear hy0
     refine mvY 0 (v := .agg (ecs E a).toArray) rfl (yieldsIf_load_mid (by rfl) 34 _ rfl w.heap.size 0 rfl (ecs E a) _ (fun w0 hw0 => (X.out.below hw0).range) Tryz.underlying34 rfl size34) ?_
     try simp only [Act.put, lsA, ls0, ls1]
     refine mvA 2 (v := ?hv128) rfl ?hy128 ?hr128
     case hy128 => (intro w hSw; (try dsimp only at hSw); go_simp; (try with_reducible rfl))
     try simp only [Act.put, lsA, ls0, ls1]
     refine mvA 3 (v := .int .i64 E.id) rfl (fun w0 hw0 => by have q0 := (X.out.below hw0).cell (i := 0) rfl; go_simp) ?_
     try simp only [Act.put, lsA, ls0, ls1]
     refine mvR 1 rfl (fun KK hKK => ?_)
     go_simp
     (with_reducible refine (HI.out _ (B.out.trans (RB0.out.mono B.out.size))).mono ?_)
     rintro e0 y1 ⟨rfl, hb⟩
     have RB1 := hid (RB0.out.trans (hb.mono RB0.out.size))
     clear hb
     refine hKK.out _ _ (RB1.out) (fun hH1 => ?_)
     clear hKK KK
     try simp only [Act.put, lsA, ls0, ls1]
     refine mvA 4 (v := ?hv129) rfl ?hy129 ?hr129
     case hy129 => (intro w hSw; (try dsimp only at hSw); go_simp; (try with_reducible rfl))
     try simp only [Act.put, lsA, ls0, ls1]
     refine wpAnyH_done (by kernel_rfl) ?_ _
     have RBe := hid (show Below wA.heap.size wA y1 from hH1)
     replace X := hid (X.out.below RBe.out)
     replace B := hid (B.out.trans (RBe.out.mono B.out.size))
     clear RBe
     obtain ⟨wB, rfl⟩ : ∃ x : World, x = y1 := ⟨_, rfl⟩
     go_upto_region 8 with (fail)
     clear s0 s0b
     cases s1 : (E.sv.toList == xs.toList)
     ·have s1b : (E.sv.toList != xs.toList) = true := by simp [bne, s1]
      have HX := hid (show r = 12 by rw [← HR.out, s1]; rfl)
      obtain ⟨wA, rfl⟩ : ∃ x : World, x = wB := ⟨_, rfl⟩
      refine wp_region_held_drew (S := (fun y => Below wA.heap.size wA y)) (by kernel_rfl) ((Below.refl wA.heap.size wA).drew) (fun hH0 => ?_)
      generalize hy0 : World.drew _ = y0 at hH0 ⊢
      have RB0 : Hid (Below wA.heap.size wA y0) := hid hH0
      clear hy0
      refine mvA 0 (v := ?hv102) rfl ?hy102 ?hr102
      case hy102 => (intro w hSw; (try dsimp only at hSw); go_simp; (try with_reducible rfl))
      try simp only [Act.put, lsA, ls0, ls1]
      refine mvA 1 (v := ?hv103) rfl ?hy103 ?hr103
      case hy103 => (intro w hSw; (try dsimp only at hSw); go_simp; (try with_reducible rfl))
      try simp only [Act.put, lsA, ls0, ls1]
      refine mvA 2 (v := .string E.sv) rfl (fun w0 hw0 => by have q0 := (X.out.below hw0).cell (i := 27) rfl; go_simp) ?_
      try simp only [Act.put, lsA, ls0, ls1]
      refine mvA 3 (v := ?hv104) rfl ?hy104 ?hr104
      case hy104 => (intro w hSw; (try dsimp only at hSw); go_simp; (try with_reducible rfl))
      try simp only [Act.put, lsA, ls0, ls1]
      refine mvA 4 (v := .string E.sd) rfl (fun w0 hw0 => by have q0 := (X.out.below hw0).cell (i := 2) rfl; go_simp) ?_
      try simp only [Act.put, lsA, ls0, ls1]
      refine mvR 5 rfl (fun KK hKK => ?_)
      go_simp
      (with_reducible refine (HV.out _).mono ?_)
      rintro e0 y1 ⟨rfl, hb⟩
      have RB1 := hid (RB0.out.trans (hb.mono RB0.out.size))
      clear hb
      refine hKK.out _ _ (RB1.out) (fun hH1 => ?_)
      clear hKK KK
      try simp only [Act.put, lsA, ls0, ls1]
      refine mvA 6 (v := ?hv105) rfl ?hy105 ?hr105
      case hy105 => (intro w hSw; (try dsimp only at hSw); go_simp; (try with_reducible rfl))
      try simp only [Act.put, lsA, ls0, ls1]
      refine mvA 7 (v := ?hv106) rfl ?hy106 ?hr106
      case hy106 => (intro w hSw; (try dsimp only at hSw); go_simp; (try with_reducible rfl))
      try simp only [Act.put, lsA, ls0, ls1]
      refine mvU 8 rfl ?_
      try simp only [Act.put, lsA, ls0, ls1]
      refine mvU 9 rfl ?_
      try simp only [Act.put, lsA, ls0, ls1]
      refine mvU 10 rfl ?_
      try simp only [Act.put, lsA, ls0, ls1]
      refine mvU 11 rfl ?_
      try simp only [Act.put, lsA, ls0, ls1]
      refine mvU 12 rfl ?_
      try simp only [Act.put, lsA, ls0, ls1]
      refine mvU 13 rfl ?_
      try simp only [Act.put, lsA, ls0, ls1]
      refine mvA 14 (v := ?hv107) rfl ?hy107 ?hr107
      case hy107 => (intro w hSw; (try dsimp only at hSw); go_simp; (try with_reducible rfl))
      try simp only [Act.put, lsA, ls0, ls1]
      refine wpAnyH_done (by kernel_rfl) ?_ _
      have RBe := hid (show Below wA.heap.size wA y1 from hH1)
      replace X := hid (X.out.below RBe.out)
      replace B := hid (B.out.trans (RBe.out.mono B.out.size))
      clear RBe
      obtain ⟨wB, rfl⟩ : ∃ x : World, x = y1 := ⟨_, rfl⟩
      go_wp2
      go_ret
      exact ⟨ret_i HX.out, B.out⟩
     ·have s1b : (E.sv.toList != xs.toList) = false := by simp [bne, s1]
      cases s2 : (E.sm == E.id)
      ·have s2b : (E.sm != E.id) = true := by simp [bne, s2]
       have HX := hid (show r = 12 by rw [← HR.out, s1, s2]; rfl)
       obtain ⟨wA, rfl⟩ : ∃ x : World, x = wB := ⟨_, rfl⟩
       refine wp_region_held_drew (S := (fun y => Below wA.heap.size wA y)) (by kernel_rfl) ((Below.refl wA.heap.size wA).drew) (fun hH0 => ?_)
       generalize hy0 : World.drew _ = y0 at hH0 ⊢
       have RB0 : Hid (Below wA.heap.size wA y0) := hid hH0
       clear hy0
       refine mvA 0 (v := ?hv108) rfl ?hy108 ?hr108
       case hy108 => (intro w hSw; (try dsimp only at hSw); go_simp; (try with_reducible rfl))
       try simp only [Act.put, lsA, ls0, ls1]
       refine mvA 1 (v := ?hv109) rfl ?hy109 ?hr109
       case hy109 => (intro w hSw; (try dsimp only at hSw); go_simp; (try with_reducible rfl))
       try simp only [Act.put, lsA, ls0, ls1]
       refine mvA 2 (v := .string E.sv) rfl (fun w0 hw0 => by have q0 := (X.out.below hw0).cell (i := 27) rfl; go_simp) ?_
       try simp only [Act.put, lsA, ls0, ls1]
       refine mvA 3 (v := ?hv110) rfl ?hy110 ?hr110
       case hy110 => (intro w hSw; (try dsimp only at hSw); go_simp; (try with_reducible rfl))
       try simp only [Act.put, lsA, ls0, ls1]
       refine mvA 4 (v := .string E.sd) rfl (fun w0 hw0 => by have q0 := (X.out.below hw0).cell (i := 2) rfl; go_simp) ?_
       try simp only [Act.put, lsA, ls0, ls1]
       refine mvR 5 rfl (fun KK hKK => ?_)
       go_simp
       (with_reducible refine (HV.out _).mono ?_)
       rintro e0 y1 ⟨rfl, hb⟩
       have RB1 := hid (RB0.out.trans (hb.mono RB0.out.size))
       clear hb
       refine hKK.out _ _ (RB1.out) (fun hH1 => ?_)
       clear hKK KK
       try simp only [Act.put, lsA, ls0, ls1]
       refine mvA 6 (v := ?hv111) rfl ?hy111 ?hr111
       case hy111 => (intro w hSw; (try dsimp only at hSw); go_simp; (try with_reducible rfl))
       try simp only [Act.put, lsA, ls0, ls1]
       refine mvA 7 (v := ?hv112) rfl ?hy112 ?hr112
       case hy112 => (intro w hSw; (try dsimp only at hSw); go_simp; (try with_reducible rfl))
       try simp only [Act.put, lsA, ls0, ls1]
       refine mvA 8 (v := ?hv113) rfl ?hy113 ?hr113
       case hy113 => (intro w hSw; (try dsimp only at hSw); go_simp; (try with_reducible rfl))
       try simp only [Act.put, lsA, ls0, ls1]
       refine mvA 9 (v := ?hv114) rfl ?hy114 ?hr114
       case hy114 => (intro w hSw; (try dsimp only at hSw); go_simp; (try with_reducible rfl))
       try simp only [Act.put, lsA, ls0, ls1]
       refine mvA 10 (v := .int .i64 E.sm) rfl (fun w0 hw0 => by have q0 := (X.out.below hw0).cell (i := 28) rfl; go_simp) ?_
       try simp only [Act.put, lsA, ls0, ls1]
       refine mvA 11 (v := ?hv115) rfl ?hy115 ?hr115
       case hy115 => (intro w hSw; (try dsimp only at hSw); go_simp; (try with_reducible rfl))
       try simp only [Act.put, lsA, ls0, ls1]
       refine mvA 12 (v := .int .i64 E.id) rfl (fun w0 hw0 => by have q0 := (X.out.below hw0).cell (i := 0) rfl; go_simp) ?_
       try simp only [Act.put, lsA, ls0, ls1]
       refine mvA 13 (v := ?hv116) rfl ?hy116 ?hr116
       case hy116 => (intro w hSw; (try dsimp only at hSw); go_simp; (try with_reducible rfl))
       try simp only [Act.put, lsA, ls0, ls1]
       refine mvA 14 (v := ?hv117) rfl ?hy117 ?hr117
       case hy117 => (intro w hSw; (try dsimp only at hSw); go_simp; (try with_reducible rfl))
       try simp only [Act.put, lsA, ls0, ls1]
       refine wpAnyH_done (by kernel_rfl) ?_ _
       have RBe := hid (show Below wA.heap.size wA y1 from hH1)
       replace X := hid (X.out.below RBe.out)
       replace B := hid (B.out.trans (RBe.out.mono B.out.size))
       clear RBe
       obtain ⟨wB, rfl⟩ : ∃ x : World, x = y1 := ⟨_, rfl⟩
       go_wp2
       go_ret
       exact ⟨ret_i HX.out, B.out⟩
      ·have s2b : (E.sm != E.id) = false := by simp [bne, s2]
       have HX := hid (show r = 0 by rw [← HR.out, s1, s2]; rfl)
       obtain ⟨wA, rfl⟩ : ∃ x : World, x = wB := ⟨_, rfl⟩
       refine wp_region_held_drew (S := (fun y => Below wA.heap.size wA y)) (by kernel_rfl) ((Below.refl wA.heap.size wA).drew) (fun hH0 => ?_)
       generalize hy0 : World.drew _ = y0 at hH0 ⊢
       have RB0 : Hid (Below wA.heap.size wA y0) := hid hH0
       clear hy0
       refine mvA 0 (v := ?hv118) rfl ?hy118 ?hr118
       case hy118 => (intro w hSw; (try dsimp only at hSw); go_simp; (try with_reducible rfl))
       try simp only [Act.put, lsA, ls0, ls1]
       refine mvA 1 (v := ?hv119) rfl ?hy119 ?hr119
       case hy119 => (intro w hSw; (try dsimp only at hSw); go_simp; (try with_reducible rfl))
       try simp only [Act.put, lsA, ls0, ls1]
       refine mvA 2 (v := .string E.sv) rfl (fun w0 hw0 => by have q0 := (X.out.below hw0).cell (i := 27) rfl; go_simp) ?_
       try simp only [Act.put, lsA, ls0, ls1]
       refine mvA 3 (v := ?hv120) rfl ?hy120 ?hr120
       case hy120 => (intro w hSw; (try dsimp only at hSw); go_simp; (try with_reducible rfl))
       try simp only [Act.put, lsA, ls0, ls1]
       refine mvA 4 (v := .string E.sd) rfl (fun w0 hw0 => by have q0 := (X.out.below hw0).cell (i := 2) rfl; go_simp) ?_
       try simp only [Act.put, lsA, ls0, ls1]
       refine mvR 5 rfl (fun KK hKK => ?_)
       go_simp
       (with_reducible refine (HV.out _).mono ?_)
       rintro e0 y1 ⟨rfl, hb⟩
       have RB1 := hid (RB0.out.trans (hb.mono RB0.out.size))
       clear hb
       refine hKK.out _ _ (RB1.out) (fun hH1 => ?_)
       clear hKK KK
       try simp only [Act.put, lsA, ls0, ls1]
       refine mvA 6 (v := ?hv121) rfl ?hy121 ?hr121
       case hy121 => (intro w hSw; (try dsimp only at hSw); go_simp; (try with_reducible rfl))
       try simp only [Act.put, lsA, ls0, ls1]
       refine mvA 7 (v := ?hv122) rfl ?hy122 ?hr122
       case hy122 => (intro w hSw; (try dsimp only at hSw); go_simp; (try with_reducible rfl))
       try simp only [Act.put, lsA, ls0, ls1]
       refine mvA 8 (v := ?hv123) rfl ?hy123 ?hr123
       case hy123 => (intro w hSw; (try dsimp only at hSw); go_simp; (try with_reducible rfl))
       try simp only [Act.put, lsA, ls0, ls1]
       refine mvA 9 (v := ?hv124) rfl ?hy124 ?hr124
       case hy124 => (intro w hSw; (try dsimp only at hSw); go_simp; (try with_reducible rfl))
       try simp only [Act.put, lsA, ls0, ls1]
       refine mvA 10 (v := .int .i64 E.sm) rfl (fun w0 hw0 => by have q0 := (X.out.below hw0).cell (i := 28) rfl; go_simp) ?_
       try simp only [Act.put, lsA, ls0, ls1]
       refine mvA 11 (v := ?hv125) rfl ?hy125 ?hr125
       case hy125 => (intro w hSw; (try dsimp only at hSw); go_simp; (try with_reducible rfl))
       try simp only [Act.put, lsA, ls0, ls1]
       refine mvA 12 (v := .int .i64 E.id) rfl (fun w0 hw0 => by have q0 := (X.out.below hw0).cell (i := 0) rfl; go_simp) ?_
       try simp only [Act.put, lsA, ls0, ls1]
       refine mvA 13 (v := ?hv126) rfl ?hy126 ?hr126
       case hy126 => (intro w hSw; (try dsimp only at hSw); go_simp; (try with_reducible rfl))
       try simp only [Act.put, lsA, ls0, ls1]
       refine mvA 14 (v := ?hv127) rfl ?hy127 ?hr127
       case hy127 => (intro w hSw; (try dsimp only at hSw); go_simp; (try with_reducible rfl))
       try simp only [Act.put, lsA, ls0, ls1]
       refine wpAnyH_done (by kernel_rfl) ?_ _
       have RBe := hid (show Below wA.heap.size wA y1 from hH1)
       replace X := hid (X.out.below RBe.out)
       replace B := hid (B.out.trans (RBe.out.mono B.out.size))
       clear RBe
       obtain ⟨wB, rfl⟩ : ∃ x : World, x = y1 := ⟨_, rfl⟩
       go_wp2
       go_ret
       exact ⟨ret_i HX.out, B.out⟩
 ·have HX := hid (show r = k by rw [← HR.out]; exact if_pos hk)
  have z0 : (k == 0) = false := beq_eq_false_iff_ne.2 hk
  have z0b : (k != 0) = true := by simp [bne, z0]
  clear hk
  go_wp2
  go_ret
  exact ⟨ret_i HX.out, B.out⟩
end Go.Proofs.YtablocpcgknmaaaGreatDoor
