/- One-time keys: Check of both. Bound: at most 900000 entries. -/
import Derived.Test.YtkmocchikgmnbaaW3
namespace Go.Proofs.Ytkmocchikgmnbaa
open Go.RowKit
set_option linter.unusedVariables false
set_option linter.unusedSimpArgs false

set_option maxRecDepth 100000 in
set_option maxHeartbeats 4000000 in
theorem check10 (A : Option Addr) (n c : Nat) (zs : List Rc) (w : World) (h : Rcs w A n c zs) (hn : n ≤ 900000) : Calls Try.prog 10 #[.slice A n c] w fun e w' => e = .returned (.int .i64 (chk zs n)) ∧ Below w.heap.size w w' := by
  have H := Lib.hid h
  have HOw := Lib.hid (fun p w => owner_x p w)
  clear h
  go_enter Try.func10, Try.ntmps10
  go_wp2
  go_loopg [3, 4, 7] n (fun gg _ _ s8 wr => ∃ kk : Nat, kk ≤ n ∧ n - kk ≤ gg ∧ s8 = .int .i64 kk ∧ Hid (∀ j, j < kk → stepM zs j = 0) ∧ Hid (Below w.heap.size w wr))
  case atStart => exact ⟨0, Nat.zero_le _, by omega, rfl, Lib.hid (fun j hj => absurd hj (Nat.not_lt_zero _)), Lib.hid (Below.refl _ _)⟩
  case round =>
    obtain ⟨kk, hkk, hg, rfl, HO, BW⟩ := hrel
    by_cases hlt : kk < n
    · have hltz : (kk : Int) < (n : Int) := by omega
      obtain ⟨b, off, eA, hbl, k0, k1, k2, k3, hfit⟩ := (H.out.below BW.out).at_ hlt
      have HS := Lib.hid (show stepM zs kk = if fE (zs.getD kk t0) = 0 then (if 0 < kk ∧ bef (zs.getD (kk - 1) t0) (zs.getD kk t0).us (zs.getD kk t0).dv = false then 8 else 0) else fE (zs.getD kk t0) from rfl)
      have HP := Lib.hid (fun (h : 0 < kk) u (hb : Below w.heap.size w u) => (H.out.below hb).get (k := kk - 1) (by omega))
      subst eA
      generalize zs.getD kk t0 = p at k0 k1 k2 k3 hfit HS
      generalize zs.getD (kk - 1) t0 = pp at HS HP
      have BA := Lib.hid (BW.out.alloc BW.out.size (.cells #[.string p.us, .string p.dv, .int .i64 p.nx, .int .i64 p.lf] 45))
      have XN := Lib.hid (blk_new wr [.string p.us, .string p.dv, .int .i64 p.nx, .int .i64 p.lf] 45)
      have HV := Lib.hid (fun u => valid_any p.us p.dv hfit.1 hfit.2 u)
      cases hok : okO p.us p.dv
      · have HF := Lib.hid (show stepM zs kk = 3 by rw [HS.out, show fE p = 3 by unfold fE; rw [hok]; rfl]; rfl)
        rw [hok] at HV
        clear hok HS HP
        go_wp2_with (first | (go_at_call 21; (with_reducible refine (HOw.out p _).mono ?_); rintro e w2 ⟨rfl, hg2⟩; have B2 := Lib.hid (BA.out.trans (hg2.bel.mono BA.out.size)); have X2 := Lib.hid (XN.out.below hg2.bel); clear hg2) | (go_at_call 22; (with_reducible refine (HV.out _).mono ?_); rintro e w3 ⟨rfl, hb3⟩; have B3 := Lib.hid (B2.out.trans (hb3.mono B2.out.size)); have X3 := Lib.hid (X2.out.below hb3); clear hb3; have q0 := X3.out.cell (i := 0) rfl; have q1 := X3.out.cell (i := 1) rfl; have q2 := X3.out.cell (i := 2) rfl; have q3 := X3.out.cell (i := 3) rfl))
        go_ret
        exact ⟨ret_i64 (chk_at hlt HF.out (by decide) HO.out).symm, B3.out⟩
      · have HT := Lib.hid hok
        rw [hok] at HV
        clear hok
        by_cases r1 : p.lf < 0
        · have HF := Lib.hid (show stepM zs kk = 2 by rw [HS.out, show fE p = 2 by unfold fE; rw [if_pos HT.out, if_pos (show rngE p from .inl r1)]]; rfl)
          clear HS HP
          go_wp2_with (first | (go_at_call 21; (with_reducible refine (HOw.out p _).mono ?_); rintro e w2 ⟨rfl, hg2⟩; have B2 := Lib.hid (BA.out.trans (hg2.bel.mono BA.out.size)); have X2 := Lib.hid (XN.out.below hg2.bel); clear hg2) | (go_at_call 22; (with_reducible refine (HV.out _).mono ?_); rintro e w3 ⟨rfl, hb3⟩; have B3 := Lib.hid (B2.out.trans (hb3.mono B2.out.size)); have X3 := Lib.hid (X2.out.below hb3); clear hb3; have q0 := X3.out.cell (i := 0) rfl; have q1 := X3.out.cell (i := 1) rfl; have q2 := X3.out.cell (i := 2) rfl; have q3 := X3.out.cell (i := 3) rfl))
          go_ret
          exact ⟨ret_i64 (chk_at hlt HF.out (by decide) HO.out).symm, B3.out⟩
        · have hr1_ := trivial
          by_cases r2 : 200 < p.lf
          · have HF := Lib.hid (show stepM zs kk = 2 by rw [HS.out, show fE p = 2 by unfold fE; rw [if_pos HT.out, if_pos (show rngE p from .inr (.inl r2))]]; rfl)
            clear HS HP
            go_wp2_with (first | (go_at_call 21; (with_reducible refine (HOw.out p _).mono ?_); rintro e w2 ⟨rfl, hg2⟩; have B2 := Lib.hid (BA.out.trans (hg2.bel.mono BA.out.size)); have X2 := Lib.hid (XN.out.below hg2.bel); clear hg2) | (go_at_call 22; (with_reducible refine (HV.out _).mono ?_); rintro e w3 ⟨rfl, hb3⟩; have B3 := Lib.hid (B2.out.trans (hb3.mono B2.out.size)); have X3 := Lib.hid (X2.out.below hb3); clear hb3; have q0 := X3.out.cell (i := 0) rfl; have q1 := X3.out.cell (i := 1) rfl; have q2 := X3.out.cell (i := 2) rfl; have q3 := X3.out.cell (i := 3) rfl))
            go_ret
            exact ⟨ret_i64 (chk_at hlt HF.out (by decide) HO.out).symm, B3.out⟩
          · have hr2_ := trivial
            by_cases r3 : p.nx < p.lf
            · have HF := Lib.hid (show stepM zs kk = 2 by rw [HS.out, show fE p = 2 by unfold fE; rw [if_pos HT.out, if_pos (show rngE p from .inr (.inr (.inl r3)))]]; rfl)
              clear HS HP
              go_wp2_with (first | (go_at_call 21; (with_reducible refine (HOw.out p _).mono ?_); rintro e w2 ⟨rfl, hg2⟩; have B2 := Lib.hid (BA.out.trans (hg2.bel.mono BA.out.size)); have X2 := Lib.hid (XN.out.below hg2.bel); clear hg2) | (go_at_call 22; (with_reducible refine (HV.out _).mono ?_); rintro e w3 ⟨rfl, hb3⟩; have B3 := Lib.hid (B2.out.trans (hb3.mono B2.out.size)); have X3 := Lib.hid (X2.out.below hb3); clear hb3; have q0 := X3.out.cell (i := 0) rfl; have q1 := X3.out.cell (i := 1) rfl; have q2 := X3.out.cell (i := 2) rfl; have q3 := X3.out.cell (i := 3) rfl))
              go_ret
              exact ⟨ret_i64 (chk_at hlt HF.out (by decide) HO.out).symm, B3.out⟩
            · have hr3_ := trivial
              by_cases r4 : 1000000000000 < p.nx
              · have HF := Lib.hid (show stepM zs kk = 2 by rw [HS.out, show fE p = 2 by unfold fE; rw [if_pos HT.out, if_pos (show rngE p from .inr (.inr (.inr r4)))]]; rfl)
                clear HS HP
                go_wp2_with (first | (go_at_call 21; (with_reducible refine (HOw.out p _).mono ?_); rintro e w2 ⟨rfl, hg2⟩; have B2 := Lib.hid (BA.out.trans (hg2.bel.mono BA.out.size)); have X2 := Lib.hid (XN.out.below hg2.bel); clear hg2) | (go_at_call 22; (with_reducible refine (HV.out _).mono ?_); rintro e w3 ⟨rfl, hb3⟩; have B3 := Lib.hid (B2.out.trans (hb3.mono B2.out.size)); have X3 := Lib.hid (X2.out.below hb3); clear hb3; have q0 := X3.out.cell (i := 0) rfl; have q1 := X3.out.cell (i := 1) rfl; have q2 := X3.out.cell (i := 2) rfl; have q3 := X3.out.cell (i := 3) rfl))
                go_ret
                exact ⟨ret_i64 (chk_at hlt HF.out (by decide) HO.out).symm, B3.out⟩
              · have hr4_ := trivial
                have HE := Lib.hid (show fE p = 0 by unfold fE; rw [if_pos HT.out, if_neg (show ¬ rngE p from by unfold rngE; omega)])
                by_cases hk0 : 0 < kk
                · have hgz : (0 : Int) < (kk : Int) := by omega
                  have e1 : IntKind.i64.wrap ((kk : Int) - 1) = (kk : Int) - 1 := IntWalk.i64_in _ (by omega)
                  have e2 : ((kk : Int) - 1).toNat = kk - 1 := by omega
                  have e3 : (0 : Int) ≤ (kk : Int) - 1 := by omega
                  have e4 : (kk : Int) - 1 < (n : Int) := by omega
                  have e5 : (1 : Int) ≤ (kk : Int) := by omega
                  cases ho : bef pp p.us p.dv
                  · have HF := Lib.hid (show stepM zs kk = 8 by rw [HS.out, HE.out, if_pos rfl, if_pos ⟨hk0, ho⟩])
                    go_upto_region 8 with (first | (go_at_call 21; (with_reducible refine (HOw.out p _).mono ?_); rintro e w2 ⟨rfl, hg2⟩; have B2 := Lib.hid (BA.out.trans (hg2.bel.mono BA.out.size)); have X2 := Lib.hid (XN.out.below hg2.bel); clear hg2) | (go_at_call 22; (with_reducible refine (HV.out _).mono ?_); rintro e w3 ⟨rfl, hb3⟩; have B3 := Lib.hid (B2.out.trans (hb3.mono B2.out.size)); have X3 := Lib.hid (X2.out.below hb3); clear hb3; have q0 := X3.out.cell (i := 0) rfl; have q1 := X3.out.cell (i := 1) rfl; have q2 := X3.out.cell (i := 2) rfl; have q3 := X3.out.cell (i := 3) rfl))
                    have PR : Hid (∀ u, Below w3.heap.size w3 u → World.rangeAt u b (off + (kk - 1) * 4) (enc pp)) := Lib.hid (fun u hb => by
                      obtain ⟨b2, off2, e5, _, hr2, _⟩ := HP.out hk0 u (B3.out.trans (hb.mono B3.out.size))
                      simp only [Option.some.injEq, Addr.mk.injEq, and_true] at e5
                      obtain ⟨rfl, rfl⟩ := e5
                      exact hr2)
                    have hol := ord_eq p pp
                    rw [ho] at hol
                    have hol2 := (show cmpO p pp ≤ 0 by simpa using hol)
                    clear hol
                    generalize hbx : wr.heap.size = bx at X3 ⊢
                    clear hbx q0 q1 q2 q3
                    refine wp_region_held_drew (S := (fun w0 => Below w3.heap.size w3 w0)) (by kernel_rfl) ((Below.refl _ _).drew) (fun hH0 => ?_)
                    generalize w3.drew = y0 at hH0 ⊢
                    have RB0 : Hid (Below w3.heap.size w3 y0) := Lib.hid hH0
                    refine wpAnyH_take (i := 0) (oi := ({ dst := some 36, op := Op.move (Operand.tmp 3), type := 3, pos := "onetime.go:42", after := #[], guard := none } : Oper)) (v := ?hv1) rfl (by kernel_rfl) (by kernel_rfl) (by kernel_rfl) (fun _ _ _ h => h) (Or.inl ⟨by rfl, ?hy1⟩) (by assumption) ?hr1
                    case hy1 => (intro w hSw; (try dsimp only at hSw); go_simp; (try with_reducible rfl))
                    try simp only [Act.put, List.setIfInBounds_toArray, List.set_cons_zero, List.set_cons_succ]
                    refine wpAnyH_take (i := 1) (oi := ({ dst := some 37, op := Op.binOp BinOp.gtr 3 (Operand.tmp 36) (Operand.const (Value.int IntKind.i64 0)) 3, type := 4, pos := "onetime.go:42", after := #[{ on := 0, ground := Ground.data }], guard := none } : Oper)) (v := ?hv2) rfl (by kernel_rfl) (by kernel_rfl) (by kernel_rfl) (fun _ _ _ h => h) (Or.inl ⟨by rfl, ?hy2⟩) (by assumption) ?hr2
                    case hy2 => (intro w hSw; (try dsimp only at hSw); go_simp; (try with_reducible rfl))
                    try simp only [Act.put, List.setIfInBounds_toArray, List.set_cons_zero, List.set_cons_succ]
                    refine wpAnyH_take (i := 2) (oi := ({ dst := some 38, op := Op.move (Operand.tmp 37), type := 4, pos := "onetime.go:42", after := #[{ on := 1, ground := Ground.data }], guard := none } : Oper)) (v := ?hv3) rfl (by kernel_rfl) (by kernel_rfl) (by kernel_rfl) (fun _ _ _ h => h) (Or.inl ⟨by rfl, ?hy3⟩) (by assumption) ?hr3
                    case hy3 => (intro w hSw; (try dsimp only at hSw); go_simp; (try with_reducible rfl))
                    try simp only [Act.put, List.setIfInBounds_toArray, List.set_cons_zero, List.set_cons_succ]
                    refine wpAnyH_take (i := 3) (oi := ({ dst := some 39, op := Op.load 45 (Operand.tmp 4), type := 45, pos := "onetime.go:42", after := #[{ on := 2, ground := Ground.guard }], guard := some (2, true) } : Oper)) (v := .agg #[.string p.us, .string p.dv, .int .i64 p.nx, .int .i64 p.lf]) rfl (by kernel_rfl) (by kernel_rfl) (by kernel_rfl) (fun _ _ _ h => h) (yieldsIf_load_mid (by rfl) 45 _ rfl bx 0 rfl [.string p.us, .string p.dv, .int .i64 p.nx, .int .i64 p.lf] _ (fun w0 hw0 => (X3.out.below hw0).range) Try.underlying45 rfl size45) (by assumption) ?_
                    try simp only [Act.put, List.setIfInBounds_toArray, List.set_cons_zero, List.set_cons_succ]
                    refine wpAnyH_take (i := 5) (oi := ({ dst := some 41, op := Op.move (Operand.tmp 0), type := 22, pos := "onetime.go:42", after := #[{ on := 2, ground := Ground.guard }], guard := some (2, true) } : Oper)) (v := ?hv4) rfl (by kernel_rfl) (by kernel_rfl) (by kernel_rfl) (fun _ _ _ h => h) (Or.inl ⟨by rfl, ?hy4⟩) (by assumption) ?hr4
                    case hy4 => (intro w hSw; (try dsimp only at hSw); go_simp; (try with_reducible rfl))
                    try simp only [Act.put, List.setIfInBounds_toArray, List.set_cons_zero, List.set_cons_succ]
                    refine wpAnyH_take (i := 6) (oi := ({ dst := some 42, op := Op.move (Operand.tmp 3), type := 3, pos := "onetime.go:42", after := #[{ on := 2, ground := Ground.guard }], guard := some (2, true) } : Oper)) (v := ?hv5) rfl (by kernel_rfl) (by kernel_rfl) (by kernel_rfl) (fun _ _ _ h => h) (Or.inl ⟨by rfl, ?hy5⟩) (by assumption) ?hr5
                    case hy5 => (intro w hSw; (try dsimp only at hSw); go_simp; (try with_reducible rfl))
                    try simp only [Act.put, List.setIfInBounds_toArray, List.set_cons_zero, List.set_cons_succ]
                    refine wpAnyH_take (i := 7) (oi := ({ dst := some 43, op := Op.binOp BinOp.sub 3 (Operand.tmp 42) (Operand.const (Value.int IntKind.i64 1)) 3, type := 3, pos := "onetime.go:42", after := #[{ on := 6, ground := Ground.data }, { on := 2, ground := Ground.guard }], guard := some (2, true) } : Oper)) (v := ?hv6) rfl (by kernel_rfl) (by kernel_rfl) (by kernel_rfl) (fun _ _ _ h => h) (Or.inl ⟨by rfl, ?hy6⟩) (by assumption) ?hr6
                    case hy6 => (intro w hSw; (try dsimp only at hSw); go_simp; (try with_reducible rfl))
                    try simp only [Act.put, List.setIfInBounds_toArray, List.set_cons_zero, List.set_cons_succ]
                    refine wpAnyH_take (i := 8) (oi := ({ dst := some 44, op := Op.indexAddr 22 (Operand.tmp 41) (Operand.tmp 43), type := 0, pos := "onetime.go:42", after := #[{ on := 5, ground := Ground.data }, { on := 7, ground := Ground.data }, { on := 2, ground := Ground.guard }], guard := some (2, true) } : Oper)) (v := ?hv7) rfl (by kernel_rfl) (by kernel_rfl) (by kernel_rfl) (fun _ _ _ h => h) (Or.inl ⟨by rfl, ?hy7⟩) (by assumption) ?hr7
                    case hy7 => (intro w hSw; (try dsimp only at hSw); go_simp; (try with_reducible rfl))
                    try simp only [Act.put, List.setIfInBounds_toArray, List.set_cons_zero, List.set_cons_succ]
                    refine wpAnyH_take (i := 9) (oi := ({ dst := some 45, op := Op.load 45 (Operand.tmp 44), type := 45, pos := "onetime.go:42", after := #[{ on := 8, ground := Ground.data }, { on := 2, ground := Ground.guard }], guard := some (2, true) } : Oper)) (v := .agg #[.string pp.us, .string pp.dv, .int .i64 pp.nx, .int .i64 pp.lf]) rfl (by kernel_rfl) (by kernel_rfl) (by kernel_rfl) (fun _ _ _ h => h) (yieldsIf_load_mid (by rfl) 45 _ rfl b (off + (kk - 1) * 4) rfl [.string pp.us, .string pp.dv, .int .i64 pp.nx, .int .i64 pp.lf] _ (fun w0 hw0 => PR.out w0 hw0) Try.underlying45 rfl size45) (by assumption) ?_
                    try simp only [Act.put, List.setIfInBounds_toArray, List.set_cons_zero, List.set_cons_succ]
                    refine wpAnyH_ready (rs := [4]) (by kernel_rfl) (by simp) ?_
                    refine AllReadyH.cons (o := ({ dst := some 40, op := Op.call { callee := Callee.value (Operand.func 21), args := #[Operand.tmp 39], argTypes := #[45] }, type := 47, pos := "onetime.go:42", after := #[{ on := 3, ground := Ground.data }, { on := 2, ground := Ground.chain }, { on := 2, ground := Ground.guard }], guard := some (2, true) } : Oper)) rfl (fun KK hKK => ?_) AllReadyH.nil
                    go_simp
                    (with_reducible refine (HOw.out p _).mono ?_)
                    rintro e1 y1 ⟨rfl, hb⟩
                    have RB1 := Lib.hid (RB0.out.trans (hb.bel.mono RB0.out.size))
                    clear hb
                    refine hKK.out _ _ (RB1.out) (fun hH1 => ?_)
                    clear hKK KK
                    try simp only [Act.put, List.setIfInBounds_toArray, List.set_cons_zero, List.set_cons_succ]
                    refine wpAnyH_ready (rs := [10]) (by kernel_rfl) (by simp) ?_
                    refine AllReadyH.cons (o := ({ dst := some 46, op := Op.call { callee := Callee.value (Operand.func 21), args := #[Operand.tmp 45], argTypes := #[45] }, type := 47, pos := "onetime.go:42", after := #[{ on := 9, ground := Ground.data }, { on := 4, ground := Ground.chain }, { on := 2, ground := Ground.guard }], guard := some (2, true) } : Oper)) rfl (fun KK hKK => ?_) AllReadyH.nil
                    go_simp
                    (with_reducible refine (HOw.out pp _).mono ?_)
                    rintro e2 y2 ⟨rfl, hb⟩
                    have RB2 := Lib.hid (RB1.out.trans (hb.bel.mono RB1.out.size))
                    clear hb
                    refine hKK.out _ _ (RB2.out) (fun hH2 => ?_)
                    clear hKK KK
                    try simp only [Act.put, List.setIfInBounds_toArray, List.set_cons_zero, List.set_cons_succ]
                    refine wpAnyH_ready (rs := [11]) (by kernel_rfl) (by simp) ?_
                    refine AllReadyH.cons (o := ({ dst := some 47, op := Op.call { callee := Callee.value (Operand.func 23), args := #[Operand.tmp 40, Operand.tmp 46], argTypes := #[47, 47] }, type := 3, pos := "onetime.go:42", after := #[{ on := 4, ground := Ground.data }, { on := 10, ground := Ground.data }, { on := 10, ground := Ground.chain }, { on := 2, ground := Ground.guard }], guard := some (2, true) } : Oper)) rfl (fun KK hKK => ?_) AllReadyH.nil
                    go_simp
                    (with_reducible refine (compareO p pp _).mono ?_)
                    rintro e3 y3 ⟨rfl, hb⟩
                    have RB3 := Lib.hid (RB2.out.trans (hb.bel.mono RB2.out.size))
                    clear hb
                    refine hKK.out _ _ (RB3.out) (fun hH3 => ?_)
                    clear hKK KK
                    try simp only [Act.put, List.setIfInBounds_toArray, List.set_cons_zero, List.set_cons_succ]
                    refine wpAnyH_take (i := 12) (oi := ({ dst := some 48, op := Op.binOp BinOp.leq 3 (Operand.tmp 47) (Operand.const (Value.int IntKind.i64 0)) 3, type := 4, pos := "onetime.go:42", after := #[{ on := 11, ground := Ground.data }, { on := 2, ground := Ground.guard }], guard := some (2, true) } : Oper)) (v := ?hv8) rfl (by kernel_rfl) (by kernel_rfl) (by kernel_rfl) (fun _ _ _ h => h) (Or.inl ⟨by rfl, ?hy8⟩) (by assumption) ?hr8
                    case hy8 => (intro w hSw; (try dsimp only at hSw); go_simp; (try with_reducible rfl))
                    try simp only [Act.put, List.setIfInBounds_toArray, List.set_cons_zero, List.set_cons_succ]
                    refine wpAnyH_take (i := 13) (oi := ({ dst := some 49, op := Op.pick (Operand.tmp 38) (Operand.tmp 48) (Operand.const (Value.bool false)), type := 4, pos := "onetime.go:42", after := #[{ on := 2, ground := Ground.data }, { on := 12, ground := Ground.data }], guard := none } : Oper)) (v := ?hv9) rfl (by kernel_rfl) (by kernel_rfl) (by kernel_rfl) (fun _ _ _ h => h) (Or.inl ⟨by rfl, ?hy9⟩) (by assumption) ?hr9
                    case hy9 => (intro w hSw; (try dsimp only at hSw); go_simp; (try with_reducible rfl))
                    try simp only [Act.put, List.setIfInBounds_toArray, List.set_cons_zero, List.set_cons_succ]
                    refine wpAnyH_done (by kernel_rfl) ?_ _
                    go_wp2
                    go_ret
                    exact ⟨ret_i64 (chk_at hlt HF.out (by decide) HO.out).symm, B3.out.trans (RB3.out.mono B3.out.size)⟩
                  · have HF := Lib.hid (show stepM zs kk = 0 by rw [HS.out, HE.out, if_pos rfl, if_neg (by rw [ho]; rintro ⟨_, h⟩; cases h)])
                    go_upto_region 8 with (first | (go_at_call 21; (with_reducible refine (HOw.out p _).mono ?_); rintro e w2 ⟨rfl, hg2⟩; have B2 := Lib.hid (BA.out.trans (hg2.bel.mono BA.out.size)); have X2 := Lib.hid (XN.out.below hg2.bel); clear hg2) | (go_at_call 22; (with_reducible refine (HV.out _).mono ?_); rintro e w3 ⟨rfl, hb3⟩; have B3 := Lib.hid (B2.out.trans (hb3.mono B2.out.size)); have X3 := Lib.hid (X2.out.below hb3); clear hb3; have q0 := X3.out.cell (i := 0) rfl; have q1 := X3.out.cell (i := 1) rfl; have q2 := X3.out.cell (i := 2) rfl; have q3 := X3.out.cell (i := 3) rfl))
                    have PR : Hid (∀ u, Below w3.heap.size w3 u → World.rangeAt u b (off + (kk - 1) * 4) (enc pp)) := Lib.hid (fun u hb => by
                      obtain ⟨b2, off2, e5, _, hr2, _⟩ := HP.out hk0 u (B3.out.trans (hb.mono B3.out.size))
                      simp only [Option.some.injEq, Addr.mk.injEq, and_true] at e5
                      obtain ⟨rfl, rfl⟩ := e5
                      exact hr2)
                    have hol := ord_eq p pp
                    rw [ho] at hol
                    have hol2 := (show 0 < cmpO p pp by simpa using hol)
                    clear hol
                    generalize hbx : wr.heap.size = bx at X3 ⊢
                    clear hbx q0 q1 q2 q3
                    refine wp_region_held_drew (S := (fun w0 => Below w3.heap.size w3 w0)) (by kernel_rfl) ((Below.refl _ _).drew) (fun hH0 => ?_)
                    generalize w3.drew = y0 at hH0 ⊢
                    have RB0 : Hid (Below w3.heap.size w3 y0) := Lib.hid hH0
                    refine wpAnyH_take (i := 0) (oi := ({ dst := some 36, op := Op.move (Operand.tmp 3), type := 3, pos := "onetime.go:42", after := #[], guard := none } : Oper)) (v := ?hv10) rfl (by kernel_rfl) (by kernel_rfl) (by kernel_rfl) (fun _ _ _ h => h) (Or.inl ⟨by rfl, ?hy10⟩) (by assumption) ?hr10
                    case hy10 => (intro w hSw; (try dsimp only at hSw); go_simp; (try with_reducible rfl))
                    try simp only [Act.put, List.setIfInBounds_toArray, List.set_cons_zero, List.set_cons_succ]
                    refine wpAnyH_take (i := 1) (oi := ({ dst := some 37, op := Op.binOp BinOp.gtr 3 (Operand.tmp 36) (Operand.const (Value.int IntKind.i64 0)) 3, type := 4, pos := "onetime.go:42", after := #[{ on := 0, ground := Ground.data }], guard := none } : Oper)) (v := ?hv11) rfl (by kernel_rfl) (by kernel_rfl) (by kernel_rfl) (fun _ _ _ h => h) (Or.inl ⟨by rfl, ?hy11⟩) (by assumption) ?hr11
                    case hy11 => (intro w hSw; (try dsimp only at hSw); go_simp; (try with_reducible rfl))
                    try simp only [Act.put, List.setIfInBounds_toArray, List.set_cons_zero, List.set_cons_succ]
                    refine wpAnyH_take (i := 2) (oi := ({ dst := some 38, op := Op.move (Operand.tmp 37), type := 4, pos := "onetime.go:42", after := #[{ on := 1, ground := Ground.data }], guard := none } : Oper)) (v := ?hv12) rfl (by kernel_rfl) (by kernel_rfl) (by kernel_rfl) (fun _ _ _ h => h) (Or.inl ⟨by rfl, ?hy12⟩) (by assumption) ?hr12
                    case hy12 => (intro w hSw; (try dsimp only at hSw); go_simp; (try with_reducible rfl))
                    try simp only [Act.put, List.setIfInBounds_toArray, List.set_cons_zero, List.set_cons_succ]
                    refine wpAnyH_take (i := 3) (oi := ({ dst := some 39, op := Op.load 45 (Operand.tmp 4), type := 45, pos := "onetime.go:42", after := #[{ on := 2, ground := Ground.guard }], guard := some (2, true) } : Oper)) (v := .agg #[.string p.us, .string p.dv, .int .i64 p.nx, .int .i64 p.lf]) rfl (by kernel_rfl) (by kernel_rfl) (by kernel_rfl) (fun _ _ _ h => h) (yieldsIf_load_mid (by rfl) 45 _ rfl bx 0 rfl [.string p.us, .string p.dv, .int .i64 p.nx, .int .i64 p.lf] _ (fun w0 hw0 => (X3.out.below hw0).range) Try.underlying45 rfl size45) (by assumption) ?_
                    try simp only [Act.put, List.setIfInBounds_toArray, List.set_cons_zero, List.set_cons_succ]
                    refine wpAnyH_take (i := 5) (oi := ({ dst := some 41, op := Op.move (Operand.tmp 0), type := 22, pos := "onetime.go:42", after := #[{ on := 2, ground := Ground.guard }], guard := some (2, true) } : Oper)) (v := ?hv13) rfl (by kernel_rfl) (by kernel_rfl) (by kernel_rfl) (fun _ _ _ h => h) (Or.inl ⟨by rfl, ?hy13⟩) (by assumption) ?hr13
                    case hy13 => (intro w hSw; (try dsimp only at hSw); go_simp; (try with_reducible rfl))
                    try simp only [Act.put, List.setIfInBounds_toArray, List.set_cons_zero, List.set_cons_succ]
                    refine wpAnyH_take (i := 6) (oi := ({ dst := some 42, op := Op.move (Operand.tmp 3), type := 3, pos := "onetime.go:42", after := #[{ on := 2, ground := Ground.guard }], guard := some (2, true) } : Oper)) (v := ?hv14) rfl (by kernel_rfl) (by kernel_rfl) (by kernel_rfl) (fun _ _ _ h => h) (Or.inl ⟨by rfl, ?hy14⟩) (by assumption) ?hr14
                    case hy14 => (intro w hSw; (try dsimp only at hSw); go_simp; (try with_reducible rfl))
                    try simp only [Act.put, List.setIfInBounds_toArray, List.set_cons_zero, List.set_cons_succ]
                    refine wpAnyH_take (i := 7) (oi := ({ dst := some 43, op := Op.binOp BinOp.sub 3 (Operand.tmp 42) (Operand.const (Value.int IntKind.i64 1)) 3, type := 3, pos := "onetime.go:42", after := #[{ on := 6, ground := Ground.data }, { on := 2, ground := Ground.guard }], guard := some (2, true) } : Oper)) (v := ?hv15) rfl (by kernel_rfl) (by kernel_rfl) (by kernel_rfl) (fun _ _ _ h => h) (Or.inl ⟨by rfl, ?hy15⟩) (by assumption) ?hr15
                    case hy15 => (intro w hSw; (try dsimp only at hSw); go_simp; (try with_reducible rfl))
                    try simp only [Act.put, List.setIfInBounds_toArray, List.set_cons_zero, List.set_cons_succ]
                    refine wpAnyH_take (i := 8) (oi := ({ dst := some 44, op := Op.indexAddr 22 (Operand.tmp 41) (Operand.tmp 43), type := 0, pos := "onetime.go:42", after := #[{ on := 5, ground := Ground.data }, { on := 7, ground := Ground.data }, { on := 2, ground := Ground.guard }], guard := some (2, true) } : Oper)) (v := ?hv16) rfl (by kernel_rfl) (by kernel_rfl) (by kernel_rfl) (fun _ _ _ h => h) (Or.inl ⟨by rfl, ?hy16⟩) (by assumption) ?hr16
                    case hy16 => (intro w hSw; (try dsimp only at hSw); go_simp; (try with_reducible rfl))
                    try simp only [Act.put, List.setIfInBounds_toArray, List.set_cons_zero, List.set_cons_succ]
                    refine wpAnyH_take (i := 9) (oi := ({ dst := some 45, op := Op.load 45 (Operand.tmp 44), type := 45, pos := "onetime.go:42", after := #[{ on := 8, ground := Ground.data }, { on := 2, ground := Ground.guard }], guard := some (2, true) } : Oper)) (v := .agg #[.string pp.us, .string pp.dv, .int .i64 pp.nx, .int .i64 pp.lf]) rfl (by kernel_rfl) (by kernel_rfl) (by kernel_rfl) (fun _ _ _ h => h) (yieldsIf_load_mid (by rfl) 45 _ rfl b (off + (kk - 1) * 4) rfl [.string pp.us, .string pp.dv, .int .i64 pp.nx, .int .i64 pp.lf] _ (fun w0 hw0 => PR.out w0 hw0) Try.underlying45 rfl size45) (by assumption) ?_
                    try simp only [Act.put, List.setIfInBounds_toArray, List.set_cons_zero, List.set_cons_succ]
                    refine wpAnyH_ready (rs := [4]) (by kernel_rfl) (by simp) ?_
                    refine AllReadyH.cons (o := ({ dst := some 40, op := Op.call { callee := Callee.value (Operand.func 21), args := #[Operand.tmp 39], argTypes := #[45] }, type := 47, pos := "onetime.go:42", after := #[{ on := 3, ground := Ground.data }, { on := 2, ground := Ground.chain }, { on := 2, ground := Ground.guard }], guard := some (2, true) } : Oper)) rfl (fun KK hKK => ?_) AllReadyH.nil
                    go_simp
                    (with_reducible refine (HOw.out p _).mono ?_)
                    rintro e1 y1 ⟨rfl, hb⟩
                    have RB1 := Lib.hid (RB0.out.trans (hb.bel.mono RB0.out.size))
                    clear hb
                    refine hKK.out _ _ (RB1.out) (fun hH1 => ?_)
                    clear hKK KK
                    try simp only [Act.put, List.setIfInBounds_toArray, List.set_cons_zero, List.set_cons_succ]
                    refine wpAnyH_ready (rs := [10]) (by kernel_rfl) (by simp) ?_
                    refine AllReadyH.cons (o := ({ dst := some 46, op := Op.call { callee := Callee.value (Operand.func 21), args := #[Operand.tmp 45], argTypes := #[45] }, type := 47, pos := "onetime.go:42", after := #[{ on := 9, ground := Ground.data }, { on := 4, ground := Ground.chain }, { on := 2, ground := Ground.guard }], guard := some (2, true) } : Oper)) rfl (fun KK hKK => ?_) AllReadyH.nil
                    go_simp
                    (with_reducible refine (HOw.out pp _).mono ?_)
                    rintro e2 y2 ⟨rfl, hb⟩
                    have RB2 := Lib.hid (RB1.out.trans (hb.bel.mono RB1.out.size))
                    clear hb
                    refine hKK.out _ _ (RB2.out) (fun hH2 => ?_)
                    clear hKK KK
                    try simp only [Act.put, List.setIfInBounds_toArray, List.set_cons_zero, List.set_cons_succ]
                    refine wpAnyH_ready (rs := [11]) (by kernel_rfl) (by simp) ?_
                    refine AllReadyH.cons (o := ({ dst := some 47, op := Op.call { callee := Callee.value (Operand.func 23), args := #[Operand.tmp 40, Operand.tmp 46], argTypes := #[47, 47] }, type := 3, pos := "onetime.go:42", after := #[{ on := 4, ground := Ground.data }, { on := 10, ground := Ground.data }, { on := 10, ground := Ground.chain }, { on := 2, ground := Ground.guard }], guard := some (2, true) } : Oper)) rfl (fun KK hKK => ?_) AllReadyH.nil
                    go_simp
                    (with_reducible refine (compareO p pp _).mono ?_)
                    rintro e3 y3 ⟨rfl, hb⟩
                    have RB3 := Lib.hid (RB2.out.trans (hb.bel.mono RB2.out.size))
                    clear hb
                    refine hKK.out _ _ (RB3.out) (fun hH3 => ?_)
                    clear hKK KK
                    try simp only [Act.put, List.setIfInBounds_toArray, List.set_cons_zero, List.set_cons_succ]
                    refine wpAnyH_take (i := 12) (oi := ({ dst := some 48, op := Op.binOp BinOp.leq 3 (Operand.tmp 47) (Operand.const (Value.int IntKind.i64 0)) 3, type := 4, pos := "onetime.go:42", after := #[{ on := 11, ground := Ground.data }, { on := 2, ground := Ground.guard }], guard := some (2, true) } : Oper)) (v := ?hv17) rfl (by kernel_rfl) (by kernel_rfl) (by kernel_rfl) (fun _ _ _ h => h) (Or.inl ⟨by rfl, ?hy17⟩) (by assumption) ?hr17
                    case hy17 => (intro w hSw; (try dsimp only at hSw); go_simp; (try with_reducible rfl))
                    try simp only [Act.put, List.setIfInBounds_toArray, List.set_cons_zero, List.set_cons_succ]
                    refine wpAnyH_take (i := 13) (oi := ({ dst := some 49, op := Op.pick (Operand.tmp 38) (Operand.tmp 48) (Operand.const (Value.bool false)), type := 4, pos := "onetime.go:42", after := #[{ on := 2, ground := Ground.data }, { on := 12, ground := Ground.data }], guard := none } : Oper)) (v := ?hv18) rfl (by kernel_rfl) (by kernel_rfl) (by kernel_rfl) (fun _ _ _ h => h) (Or.inl ⟨by rfl, ?hy18⟩) (by assumption) ?hr18
                    case hy18 => (intro w hSw; (try dsimp only at hSw); go_simp; (try with_reducible rfl))
                    try simp only [Act.put, List.setIfInBounds_toArray, List.set_cons_zero, List.set_cons_succ]
                    refine wpAnyH_done (by kernel_rfl) ?_ _
                    go_wp2
                    go_roundg (n - (kk + 1))
                    case measure => omega
                    case rel =>
                      refine ⟨kk + 1, by omega, by omega, by go_num, Lib.hid (fun j hj => ?_), Lib.hid (B3.out.trans (RB3.out.mono B3.out.size))⟩
                      by_cases e : j = kk
                      · subst e; exact HF.out
                      · exact HO.out j (by omega)
                · have hgz : ¬ (0 : Int) < (kk : Int) := by omega
                  have HF := Lib.hid (show stepM zs kk = 0 by rw [HS.out, HE.out, if_pos rfl, if_neg (by rintro ⟨h, _⟩; exact hk0 h)])
                  go_upto_region 8 with (first | (go_at_call 21; (with_reducible refine (HOw.out p _).mono ?_); rintro e w2 ⟨rfl, hg2⟩; have B2 := Lib.hid (BA.out.trans (hg2.bel.mono BA.out.size)); have X2 := Lib.hid (XN.out.below hg2.bel); clear hg2) | (go_at_call 22; (with_reducible refine (HV.out _).mono ?_); rintro e w3 ⟨rfl, hb3⟩; have B3 := Lib.hid (B2.out.trans (hb3.mono B2.out.size)); have X3 := Lib.hid (X2.out.below hb3); clear hb3; have q0 := X3.out.cell (i := 0) rfl; have q1 := X3.out.cell (i := 1) rfl; have q2 := X3.out.cell (i := 2) rfl; have q3 := X3.out.cell (i := 3) rfl))
                  generalize hbx : wr.heap.size = bx at X3 ⊢
                  clear hbx q0 q1 q2 q3
                  refine wp_region_held_drew (S := (fun w0 => Below w3.heap.size w3 w0)) (by kernel_rfl) ((Below.refl _ _).drew) (fun hH0 => ?_)
                  generalize w3.drew = y0 at hH0 ⊢
                  have RB0 : Hid (Below w3.heap.size w3 y0) := Lib.hid hH0
                  refine wpAnyH_take (i := 0) (oi := ({ dst := some 36, op := Op.move (Operand.tmp 3), type := 3, pos := "onetime.go:42", after := #[], guard := none } : Oper)) (v := ?hv19) rfl (by kernel_rfl) (by kernel_rfl) (by kernel_rfl) (fun _ _ _ h => h) (Or.inl ⟨by rfl, ?hy19⟩) (by assumption) ?hr19
                  case hy19 => (intro w hSw; (try dsimp only at hSw); go_simp; (try with_reducible rfl))
                  try simp only [Act.put, List.setIfInBounds_toArray, List.set_cons_zero, List.set_cons_succ]
                  refine wpAnyH_take (i := 1) (oi := ({ dst := some 37, op := Op.binOp BinOp.gtr 3 (Operand.tmp 36) (Operand.const (Value.int IntKind.i64 0)) 3, type := 4, pos := "onetime.go:42", after := #[{ on := 0, ground := Ground.data }], guard := none } : Oper)) (v := ?hv20) rfl (by kernel_rfl) (by kernel_rfl) (by kernel_rfl) (fun _ _ _ h => h) (Or.inl ⟨by rfl, ?hy20⟩) (by assumption) ?hr20
                  case hy20 => (intro w hSw; (try dsimp only at hSw); go_simp; (try with_reducible rfl))
                  try simp only [Act.put, List.setIfInBounds_toArray, List.set_cons_zero, List.set_cons_succ]
                  refine wpAnyH_take (i := 2) (oi := ({ dst := some 38, op := Op.move (Operand.tmp 37), type := 4, pos := "onetime.go:42", after := #[{ on := 1, ground := Ground.data }], guard := none } : Oper)) (v := ?hv21) rfl (by kernel_rfl) (by kernel_rfl) (by kernel_rfl) (fun _ _ _ h => h) (Or.inl ⟨by rfl, ?hy21⟩) (by assumption) ?hr21
                  case hy21 => (intro w hSw; (try dsimp only at hSw); go_simp; (try with_reducible rfl))
                  try simp only [Act.put, List.setIfInBounds_toArray, List.set_cons_zero, List.set_cons_succ]
                  refine wpAnyH_take (i := 3) (oi := ({ dst := some 39, op := Op.load 45 (Operand.tmp 4), type := 45, pos := "onetime.go:42", after := #[{ on := 2, ground := Ground.guard }], guard := some (2, true) } : Oper)) (v := undef) rfl (by kernel_rfl) (by kernel_rfl) (by kernel_rfl) (fun _ _ _ h => h) (Or.inr ⟨by rfl, rfl⟩) (by assumption) ?_
                  try simp only [Act.put, List.setIfInBounds_toArray, List.set_cons_zero, List.set_cons_succ]
                  refine wpAnyH_take (i := 5) (oi := ({ dst := some 41, op := Op.move (Operand.tmp 0), type := 22, pos := "onetime.go:42", after := #[{ on := 2, ground := Ground.guard }], guard := some (2, true) } : Oper)) (v := undef) rfl (by kernel_rfl) (by kernel_rfl) (by kernel_rfl) (fun _ _ _ h => h) (Or.inr ⟨by rfl, rfl⟩) (by assumption) ?_
                  try simp only [Act.put, List.setIfInBounds_toArray, List.set_cons_zero, List.set_cons_succ]
                  refine wpAnyH_take (i := 6) (oi := ({ dst := some 42, op := Op.move (Operand.tmp 3), type := 3, pos := "onetime.go:42", after := #[{ on := 2, ground := Ground.guard }], guard := some (2, true) } : Oper)) (v := undef) rfl (by kernel_rfl) (by kernel_rfl) (by kernel_rfl) (fun _ _ _ h => h) (Or.inr ⟨by rfl, rfl⟩) (by assumption) ?_
                  try simp only [Act.put, List.setIfInBounds_toArray, List.set_cons_zero, List.set_cons_succ]
                  refine wpAnyH_take (i := 7) (oi := ({ dst := some 43, op := Op.binOp BinOp.sub 3 (Operand.tmp 42) (Operand.const (Value.int IntKind.i64 1)) 3, type := 3, pos := "onetime.go:42", after := #[{ on := 6, ground := Ground.data }, { on := 2, ground := Ground.guard }], guard := some (2, true) } : Oper)) (v := undef) rfl (by kernel_rfl) (by kernel_rfl) (by kernel_rfl) (fun _ _ _ h => h) (Or.inr ⟨by rfl, rfl⟩) (by assumption) ?_
                  try simp only [Act.put, List.setIfInBounds_toArray, List.set_cons_zero, List.set_cons_succ]
                  refine wpAnyH_take (i := 8) (oi := ({ dst := some 44, op := Op.indexAddr 22 (Operand.tmp 41) (Operand.tmp 43), type := 0, pos := "onetime.go:42", after := #[{ on := 5, ground := Ground.data }, { on := 7, ground := Ground.data }, { on := 2, ground := Ground.guard }], guard := some (2, true) } : Oper)) (v := undef) rfl (by kernel_rfl) (by kernel_rfl) (by kernel_rfl) (fun _ _ _ h => h) (Or.inr ⟨by rfl, rfl⟩) (by assumption) ?_
                  try simp only [Act.put, List.setIfInBounds_toArray, List.set_cons_zero, List.set_cons_succ]
                  refine wpAnyH_take (i := 9) (oi := ({ dst := some 45, op := Op.load 45 (Operand.tmp 44), type := 45, pos := "onetime.go:42", after := #[{ on := 8, ground := Ground.data }, { on := 2, ground := Ground.guard }], guard := some (2, true) } : Oper)) (v := undef) rfl (by kernel_rfl) (by kernel_rfl) (by kernel_rfl) (fun _ _ _ h => h) (Or.inr ⟨by rfl, rfl⟩) (by assumption) ?_
                  try simp only [Act.put, List.setIfInBounds_toArray, List.set_cons_zero, List.set_cons_succ]
                  refine wpAnyH_ready (rs := [4]) (by kernel_rfl) (by simp) ?_
                  refine AllReadyH.cons (o := ({ dst := some 40, op := Op.call { callee := Callee.value (Operand.func 21), args := #[Operand.tmp 39], argTypes := #[45] }, type := 47, pos := "onetime.go:42", after := #[{ on := 3, ground := Ground.data }, { on := 2, ground := Ground.chain }, { on := 2, ground := Ground.guard }], guard := some (2, true) } : Oper)) rfl (fun KK hKK => ?_) AllReadyH.nil
                  go_simp
                  refine hKK.out _ _ (hH0) (fun hH1 => ?_)
                  clear hKK KK
                  try simp only [Act.put, List.setIfInBounds_toArray, List.set_cons_zero, List.set_cons_succ]
                  refine wpAnyH_ready (rs := [10]) (by kernel_rfl) (by simp) ?_
                  refine AllReadyH.cons (o := ({ dst := some 46, op := Op.call { callee := Callee.value (Operand.func 21), args := #[Operand.tmp 45], argTypes := #[45] }, type := 47, pos := "onetime.go:42", after := #[{ on := 9, ground := Ground.data }, { on := 4, ground := Ground.chain }, { on := 2, ground := Ground.guard }], guard := some (2, true) } : Oper)) rfl (fun KK hKK => ?_) AllReadyH.nil
                  go_simp
                  refine hKK.out _ _ (hH1) (fun hH2 => ?_)
                  clear hKK KK
                  try simp only [Act.put, List.setIfInBounds_toArray, List.set_cons_zero, List.set_cons_succ]
                  refine wpAnyH_ready (rs := [11]) (by kernel_rfl) (by simp) ?_
                  refine AllReadyH.cons (o := ({ dst := some 47, op := Op.call { callee := Callee.value (Operand.func 23), args := #[Operand.tmp 40, Operand.tmp 46], argTypes := #[47, 47] }, type := 3, pos := "onetime.go:42", after := #[{ on := 4, ground := Ground.data }, { on := 10, ground := Ground.data }, { on := 10, ground := Ground.chain }, { on := 2, ground := Ground.guard }], guard := some (2, true) } : Oper)) rfl (fun KK hKK => ?_) AllReadyH.nil
                  go_simp
                  refine hKK.out _ _ (hH2) (fun hH3 => ?_)
                  clear hKK KK
                  try simp only [Act.put, List.setIfInBounds_toArray, List.set_cons_zero, List.set_cons_succ]
                  refine wpAnyH_take (i := 12) (oi := ({ dst := some 48, op := Op.binOp BinOp.leq 3 (Operand.tmp 47) (Operand.const (Value.int IntKind.i64 0)) 3, type := 4, pos := "onetime.go:42", after := #[{ on := 11, ground := Ground.data }, { on := 2, ground := Ground.guard }], guard := some (2, true) } : Oper)) (v := undef) rfl (by kernel_rfl) (by kernel_rfl) (by kernel_rfl) (fun _ _ _ h => h) (Or.inr ⟨by rfl, rfl⟩) (by assumption) ?_
                  try simp only [Act.put, List.setIfInBounds_toArray, List.set_cons_zero, List.set_cons_succ]
                  refine wpAnyH_take (i := 13) (oi := ({ dst := some 49, op := Op.pick (Operand.tmp 38) (Operand.tmp 48) (Operand.const (Value.bool false)), type := 4, pos := "onetime.go:42", after := #[{ on := 2, ground := Ground.data }, { on := 12, ground := Ground.data }], guard := none } : Oper)) (v := ?hv22) rfl (by kernel_rfl) (by kernel_rfl) (by kernel_rfl) (fun _ _ _ h => h) (Or.inl ⟨by rfl, ?hy22⟩) (by assumption) ?hr22
                  case hy22 => (intro w hSw; (try dsimp only at hSw); go_simp; (try with_reducible rfl))
                  try simp only [Act.put, List.setIfInBounds_toArray, List.set_cons_zero, List.set_cons_succ]
                  refine wpAnyH_done (by kernel_rfl) ?_ _
                  go_wp2
                  go_roundg (n - (kk + 1))
                  case measure => omega
                  case rel =>
                    refine ⟨kk + 1, by omega, by omega, by go_num, Lib.hid (fun j hj => ?_), Lib.hid (B3.out.trans (RB0.out.mono B3.out.size))⟩
                    by_cases e : j = kk
                    · subst e; exact HF.out
                    · exact HO.out j (by omega)
    · have hltz : ¬ (kk : Int) < (n : Int) := by omega
      obtain rfl : kk = n := by omega
      have HF := Lib.hid (chk_no HO.out)
      go_wp2
      go_ret
      exact ⟨ret_i64 HF.out.symm, BW.out⟩
set_option maxRecDepth 100000 in
set_option maxHeartbeats 4000000 in
theorem check11 (A : Option Addr) (n c : Nat) (zs : List Rc) (w : World) (h : Rcs w A n c zs) (hn : n ≤ 900000) : Calls Try.prog 11 #[.slice A n c] w fun e w' => e = .returned (.int .i64 (chk zs n)) ∧ Below w.heap.size w w' := by
  have H := Lib.hid h
  have HOw := Lib.hid (fun p w => owner_x p w)
  clear h
  go_enter Try.func11, Try.ntmps11
  go_wp2
  go_loopg [3, 4] n (fun gg s3 _ wr => ∃ kk : Nat, kk ≤ n ∧ n - kk ≤ gg ∧ s3 = .int .i64 kk ∧ Hid (∀ j, j < kk → stepM zs j = 0) ∧ Hid (Below w.heap.size w wr))
  case atStart => exact ⟨0, Nat.zero_le _, by omega, rfl, Lib.hid (fun j hj => absurd hj (Nat.not_lt_zero _)), Lib.hid (Below.refl _ _)⟩
  case round =>
    obtain ⟨kk, hkk, hg, rfl, HO, BW⟩ := hrel
    by_cases hlt : kk < n
    · have hltz : (kk : Int) < (n : Int) := by omega
      obtain ⟨b, off, eA, hbl, k0, k1, k2, k3, hfit⟩ := (H.out.below BW.out).at_ hlt
      have HS := Lib.hid (show stepM zs kk = if fE (zs.getD kk t0) = 0 then (if 0 < kk ∧ bef (zs.getD (kk - 1) t0) (zs.getD kk t0).us (zs.getD kk t0).dv = false then 8 else 0) else fE (zs.getD kk t0) from rfl)
      have HP := Lib.hid (fun (h : 0 < kk) u (hb : Below w.heap.size w u) => (H.out.below hb).get (k := kk - 1) (by omega))
      subst eA
      generalize zs.getD kk t0 = p at k0 k1 k2 k3 hfit HS
      generalize zs.getD (kk - 1) t0 = pp at HS HP
      have BA := Lib.hid (BW.out.alloc BW.out.size (.cells #[.string p.us, .string p.dv, .int .i64 p.nx, .int .i64 p.lf] 45))
      have XN := Lib.hid (blk_new wr [.string p.us, .string p.dv, .int .i64 p.nx, .int .i64 p.lf] 45)
      have HV := Lib.hid (fun u => names_any p.us p.dv hfit.1 hfit.2 u)
      cases hok : okO p.us p.dv
      · have HF := Lib.hid (show stepM zs kk = 3 by rw [HS.out, show fE p = 3 by unfold fE; rw [hok]; rfl]; rfl)
        rw [nmE_f hok] at HV
        clear hok HS HP
        go_wp2_with (first | (go_at_call 24; (with_reducible refine (HV.out _).mono ?_); rintro e w3 ⟨rfl, e3⟩; have B3 := Lib.hid (show Below w.heap.size w w3 from e3 ▸ BA.out); have X3 := Lib.hid (show Blk w3 wr.heap.size [.string p.us, .string p.dv, .int .i64 p.nx, .int .i64 p.lf] 45 from e3 ▸ XN.out); clear e3; have q0 := X3.out.cell (i := 0) rfl; have q1 := X3.out.cell (i := 1) rfl; have q2 := X3.out.cell (i := 2) rfl; have q3 := X3.out.cell (i := 3) rfl))
        go_ret
        exact ⟨ret_i64 (chk_at hlt HF.out (by decide) HO.out).symm, B3.out⟩
      · have HT := Lib.hid hok
        rw [nmE_t hok] at HV
        clear hok
        by_cases r1 : p.lf < 0
        · have HF := Lib.hid (show stepM zs kk = 2 by rw [HS.out, show fE p = 2 by unfold fE; rw [if_pos HT.out, if_pos (show rngE p from .inl r1)]]; rfl)
          clear HS HP
          go_wp2_with (first | (go_at_call 24; (with_reducible refine (HV.out _).mono ?_); rintro e w3 ⟨rfl, e3⟩; have B3 := Lib.hid (show Below w.heap.size w w3 from e3 ▸ BA.out); have X3 := Lib.hid (show Blk w3 wr.heap.size [.string p.us, .string p.dv, .int .i64 p.nx, .int .i64 p.lf] 45 from e3 ▸ XN.out); clear e3; have q0 := X3.out.cell (i := 0) rfl; have q1 := X3.out.cell (i := 1) rfl; have q2 := X3.out.cell (i := 2) rfl; have q3 := X3.out.cell (i := 3) rfl))
          go_ret
          exact ⟨ret_i64 (chk_at hlt HF.out (by decide) HO.out).symm, B3.out⟩
        · have hr1_ := trivial
          by_cases r2 : 200 < p.lf
          · have HF := Lib.hid (show stepM zs kk = 2 by rw [HS.out, show fE p = 2 by unfold fE; rw [if_pos HT.out, if_pos (show rngE p from .inr (.inl r2))]]; rfl)
            clear HS HP
            go_wp2_with (first | (go_at_call 24; (with_reducible refine (HV.out _).mono ?_); rintro e w3 ⟨rfl, e3⟩; have B3 := Lib.hid (show Below w.heap.size w w3 from e3 ▸ BA.out); have X3 := Lib.hid (show Blk w3 wr.heap.size [.string p.us, .string p.dv, .int .i64 p.nx, .int .i64 p.lf] 45 from e3 ▸ XN.out); clear e3; have q0 := X3.out.cell (i := 0) rfl; have q1 := X3.out.cell (i := 1) rfl; have q2 := X3.out.cell (i := 2) rfl; have q3 := X3.out.cell (i := 3) rfl))
            go_ret
            exact ⟨ret_i64 (chk_at hlt HF.out (by decide) HO.out).symm, B3.out⟩
          · have hr2_ := trivial
            by_cases r3 : p.nx < p.lf
            · have HF := Lib.hid (show stepM zs kk = 2 by rw [HS.out, show fE p = 2 by unfold fE; rw [if_pos HT.out, if_pos (show rngE p from .inr (.inr (.inl r3)))]]; rfl)
              clear HS HP
              go_wp2_with (first | (go_at_call 24; (with_reducible refine (HV.out _).mono ?_); rintro e w3 ⟨rfl, e3⟩; have B3 := Lib.hid (show Below w.heap.size w w3 from e3 ▸ BA.out); have X3 := Lib.hid (show Blk w3 wr.heap.size [.string p.us, .string p.dv, .int .i64 p.nx, .int .i64 p.lf] 45 from e3 ▸ XN.out); clear e3; have q0 := X3.out.cell (i := 0) rfl; have q1 := X3.out.cell (i := 1) rfl; have q2 := X3.out.cell (i := 2) rfl; have q3 := X3.out.cell (i := 3) rfl))
              go_ret
              exact ⟨ret_i64 (chk_at hlt HF.out (by decide) HO.out).symm, B3.out⟩
            · have hr3_ := trivial
              by_cases r4 : 1000000000000 < p.nx
              · have HF := Lib.hid (show stepM zs kk = 2 by rw [HS.out, show fE p = 2 by unfold fE; rw [if_pos HT.out, if_pos (show rngE p from .inr (.inr (.inr r4)))]]; rfl)
                clear HS HP
                go_wp2_with (first | (go_at_call 24; (with_reducible refine (HV.out _).mono ?_); rintro e w3 ⟨rfl, e3⟩; have B3 := Lib.hid (show Below w.heap.size w w3 from e3 ▸ BA.out); have X3 := Lib.hid (show Blk w3 wr.heap.size [.string p.us, .string p.dv, .int .i64 p.nx, .int .i64 p.lf] 45 from e3 ▸ XN.out); clear e3; have q0 := X3.out.cell (i := 0) rfl; have q1 := X3.out.cell (i := 1) rfl; have q2 := X3.out.cell (i := 2) rfl; have q3 := X3.out.cell (i := 3) rfl))
                go_ret
                exact ⟨ret_i64 (chk_at hlt HF.out (by decide) HO.out).symm, B3.out⟩
              · have hr4_ := trivial
                have HE := Lib.hid (show fE p = 0 by unfold fE; rw [if_pos HT.out, if_neg (show ¬ rngE p from by unfold rngE; omega)])
                by_cases hk0 : 0 < kk
                · have hgz : (0 : Int) < (kk : Int) := by omega
                  have e1 : IntKind.i64.wrap ((kk : Int) - 1) = (kk : Int) - 1 := IntWalk.i64_in _ (by omega)
                  have e2 : ((kk : Int) - 1).toNat = kk - 1 := by omega
                  have e3 : (0 : Int) ≤ (kk : Int) - 1 := by omega
                  have e4 : (kk : Int) - 1 < (n : Int) := by omega
                  have e5 : (1 : Int) ≤ (kk : Int) := by omega
                  cases ho : bef pp p.us p.dv
                  · have HF := Lib.hid (show stepM zs kk = 8 by rw [HS.out, HE.out, if_pos rfl, if_pos ⟨hk0, ho⟩])
                    go_upto_region 9 with (first | (go_at_call 24; (with_reducible refine (HV.out _).mono ?_); rintro e w3 ⟨rfl, e3⟩; have B3 := Lib.hid (show Below w.heap.size w w3 from e3 ▸ BA.out); have X3 := Lib.hid (show Blk w3 wr.heap.size [.string p.us, .string p.dv, .int .i64 p.nx, .int .i64 p.lf] 45 from e3 ▸ XN.out); clear e3; have q0 := X3.out.cell (i := 0) rfl; have q1 := X3.out.cell (i := 1) rfl; have q2 := X3.out.cell (i := 2) rfl; have q3 := X3.out.cell (i := 3) rfl))
                    have PR : Hid (∀ u, Below w3.heap.size w3 u → World.rangeAt u b (off + (kk - 1) * 4) (enc pp)) := Lib.hid (fun u hb => by
                      obtain ⟨b2, off2, e5, _, hr2, _⟩ := HP.out hk0 u (B3.out.trans (hb.mono B3.out.size))
                      simp only [Option.some.injEq, Addr.mk.injEq, and_true] at e5
                      obtain ⟨rfl, rfl⟩ := e5
                      exact hr2)
                    generalize hbx : wr.heap.size = bx at X3 ⊢
                    clear hbx q0 q1 q2 q3
                    refine wp_region_held_drew (S := (fun w0 => Below w3.heap.size w3 w0)) (by kernel_rfl) ((Below.refl _ _).drew) (fun hH0 => ?_)
                    generalize w3.drew = y0 at hH0 ⊢
                    have RB0 : Hid (Below w3.heap.size w3 y0) := Lib.hid hH0
                    refine wpAnyH_take (i := 0) (oi := ({ dst := some 41, op := Op.move (Operand.tmp 3), type := 3, pos := "ref.go:32", after := #[], guard := none } : Oper)) (v := ?hv23) rfl (by kernel_rfl) (by kernel_rfl) (by kernel_rfl) (fun _ _ _ h => h) (Or.inl ⟨by rfl, ?hy23⟩) (by assumption) ?hr23
                    case hy23 => (intro w hSw; (try dsimp only at hSw); go_simp; (try with_reducible rfl))
                    try simp only [Act.put, List.setIfInBounds_toArray, List.set_cons_zero, List.set_cons_succ]
                    refine wpAnyH_take (i := 1) (oi := ({ dst := some 42, op := Op.binOp BinOp.gtr 3 (Operand.tmp 41) (Operand.const (Value.int IntKind.i64 0)) 3, type := 4, pos := "ref.go:32", after := #[{ on := 0, ground := Ground.data }], guard := none } : Oper)) (v := ?hv24) rfl (by kernel_rfl) (by kernel_rfl) (by kernel_rfl) (fun _ _ _ h => h) (Or.inl ⟨by rfl, ?hy24⟩) (by assumption) ?hr24
                    case hy24 => (intro w hSw; (try dsimp only at hSw); go_simp; (try with_reducible rfl))
                    try simp only [Act.put, List.setIfInBounds_toArray, List.set_cons_zero, List.set_cons_succ]
                    refine wpAnyH_take (i := 2) (oi := ({ dst := some 43, op := Op.move (Operand.tmp 42), type := 4, pos := "ref.go:32", after := #[{ on := 1, ground := Ground.data }], guard := none } : Oper)) (v := ?hv25) rfl (by kernel_rfl) (by kernel_rfl) (by kernel_rfl) (fun _ _ _ h => h) (Or.inl ⟨by rfl, ?hy25⟩) (by assumption) ?hr25
                    case hy25 => (intro w hSw; (try dsimp only at hSw); go_simp; (try with_reducible rfl))
                    try simp only [Act.put, List.setIfInBounds_toArray, List.set_cons_zero, List.set_cons_succ]
                    refine wpAnyH_take (i := 3) (oi := ({ dst := some 44, op := Op.move (Operand.tmp 0), type := 22, pos := "ref.go:32", after := #[{ on := 2, ground := Ground.guard }], guard := some (2, true) } : Oper)) (v := ?hv26) rfl (by kernel_rfl) (by kernel_rfl) (by kernel_rfl) (fun _ _ _ h => h) (Or.inl ⟨by rfl, ?hy26⟩) (by assumption) ?hr26
                    case hy26 => (intro w hSw; (try dsimp only at hSw); go_simp; (try with_reducible rfl))
                    try simp only [Act.put, List.setIfInBounds_toArray, List.set_cons_zero, List.set_cons_succ]
                    refine wpAnyH_take (i := 4) (oi := ({ dst := some 45, op := Op.move (Operand.tmp 3), type := 3, pos := "ref.go:32", after := #[{ on := 2, ground := Ground.guard }], guard := some (2, true) } : Oper)) (v := ?hv27) rfl (by kernel_rfl) (by kernel_rfl) (by kernel_rfl) (fun _ _ _ h => h) (Or.inl ⟨by rfl, ?hy27⟩) (by assumption) ?hr27
                    case hy27 => (intro w hSw; (try dsimp only at hSw); go_simp; (try with_reducible rfl))
                    try simp only [Act.put, List.setIfInBounds_toArray, List.set_cons_zero, List.set_cons_succ]
                    refine wpAnyH_take (i := 5) (oi := ({ dst := some 46, op := Op.binOp BinOp.sub 3 (Operand.tmp 45) (Operand.const (Value.int IntKind.i64 1)) 3, type := 3, pos := "ref.go:32", after := #[{ on := 4, ground := Ground.data }, { on := 2, ground := Ground.guard }], guard := some (2, true) } : Oper)) (v := ?hv28) rfl (by kernel_rfl) (by kernel_rfl) (by kernel_rfl) (fun _ _ _ h => h) (Or.inl ⟨by rfl, ?hy28⟩) (by assumption) ?hr28
                    case hy28 => (intro w hSw; (try dsimp only at hSw); go_simp; (try with_reducible rfl))
                    try simp only [Act.put, List.setIfInBounds_toArray, List.set_cons_zero, List.set_cons_succ]
                    refine wpAnyH_take (i := 6) (oi := ({ dst := some 47, op := Op.indexAddr 22 (Operand.tmp 44) (Operand.tmp 46), type := 0, pos := "ref.go:32", after := #[{ on := 3, ground := Ground.data }, { on := 5, ground := Ground.data }, { on := 2, ground := Ground.guard }], guard := some (2, true) } : Oper)) (v := ?hv29) rfl (by kernel_rfl) (by kernel_rfl) (by kernel_rfl) (fun _ _ _ h => h) (Or.inl ⟨by rfl, ?hy29⟩) (by assumption) ?hr29
                    case hy29 => (intro w hSw; (try dsimp only at hSw); go_simp; (try with_reducible rfl))
                    try simp only [Act.put, List.setIfInBounds_toArray, List.set_cons_zero, List.set_cons_succ]
                    refine wpAnyH_take (i := 7) (oi := ({ dst := some 48, op := Op.load 45 (Operand.tmp 47), type := 45, pos := "ref.go:32", after := #[{ on := 6, ground := Ground.data }, { on := 2, ground := Ground.guard }], guard := some (2, true) } : Oper)) (v := .agg #[.string pp.us, .string pp.dv, .int .i64 pp.nx, .int .i64 pp.lf]) rfl (by kernel_rfl) (by kernel_rfl) (by kernel_rfl) (fun _ _ _ h => h) (yieldsIf_load_mid (by rfl) 45 _ rfl b (off + (kk - 1) * 4) rfl [.string pp.us, .string pp.dv, .int .i64 pp.nx, .int .i64 pp.lf] _ (fun w0 hw0 => PR.out w0 hw0) Try.underlying45 rfl size45) (by assumption) ?_
                    try simp only [Act.put, List.setIfInBounds_toArray, List.set_cons_zero, List.set_cons_succ]
                    refine wpAnyH_take (i := 8) (oi := ({ dst := some 49, op := Op.fieldAddr 45 (Operand.tmp 4) 0, type := 0, pos := "ref.go:32", after := #[{ on := 2, ground := Ground.guard }], guard := some (2, true) } : Oper)) (v := ?hv30) rfl (by kernel_rfl) (by kernel_rfl) (by kernel_rfl) (fun _ _ _ h => h) (Or.inl ⟨by rfl, ?hy30⟩) (by assumption) ?hr30
                    case hy30 => (intro w hSw; (try dsimp only at hSw); go_simp; (try with_reducible rfl))
                    try simp only [Act.put, List.setIfInBounds_toArray, List.set_cons_zero, List.set_cons_succ]
                    refine wpAnyH_take (i := 9) (oi := ({ dst := some 50, op := Op.load 9 (Operand.tmp 49), type := 9, pos := "ref.go:32", after := #[{ on := 8, ground := Ground.data }, { on := 2, ground := Ground.guard }], guard := some (2, true) } : Oper)) (v := .string p.us) rfl (by kernel_rfl) (by kernel_rfl) (by kernel_rfl) (fun _ _ _ h => h) (Or.inl ⟨by rfl, fun w0 hw0 => by have q0 := (X3.out.below hw0).cell (i := 0) rfl; go_simp⟩) (by assumption) ?_
                    try simp only [Act.put, List.setIfInBounds_toArray, List.set_cons_zero, List.set_cons_succ]
                    refine wpAnyH_take (i := 10) (oi := ({ dst := some 51, op := Op.fieldAddr 45 (Operand.tmp 4) 1, type := 0, pos := "ref.go:32", after := #[{ on := 2, ground := Ground.guard }], guard := some (2, true) } : Oper)) (v := ?hv31) rfl (by kernel_rfl) (by kernel_rfl) (by kernel_rfl) (fun _ _ _ h => h) (Or.inl ⟨by rfl, ?hy31⟩) (by assumption) ?hr31
                    case hy31 => (intro w hSw; (try dsimp only at hSw); go_simp; (try with_reducible rfl))
                    try simp only [Act.put, List.setIfInBounds_toArray, List.set_cons_zero, List.set_cons_succ]
                    refine wpAnyH_take (i := 11) (oi := ({ dst := some 52, op := Op.load 9 (Operand.tmp 51), type := 9, pos := "ref.go:32", after := #[{ on := 10, ground := Ground.data }, { on := 2, ground := Ground.guard }], guard := some (2, true) } : Oper)) (v := .string p.dv) rfl (by kernel_rfl) (by kernel_rfl) (by kernel_rfl) (fun _ _ _ h => h) (Or.inl ⟨by rfl, fun w0 hw0 => by have q0 := (X3.out.below hw0).cell (i := 1) rfl; go_simp⟩) (by assumption) ?_
                    try simp only [Act.put, List.setIfInBounds_toArray, List.set_cons_zero, List.set_cons_succ]
                    refine wpAnyH_ready (rs := [12]) (by kernel_rfl) (by simp) ?_
                    refine AllReadyH.cons (o := ({ dst := some 53, op := Op.call { callee := Callee.value (Operand.func 25), args := #[Operand.tmp 48, Operand.tmp 50, Operand.tmp 52], argTypes := #[45, 9, 9] }, type := 4, pos := "ref.go:32", after := #[{ on := 7, ground := Ground.data }, { on := 9, ground := Ground.data }, { on := 11, ground := Ground.data }, { on := 2, ground := Ground.chain }, { on := 2, ground := Ground.guard }], guard := some (2, true) } : Oper)) rfl (fun KK hKK => ?_) AllReadyH.nil
                    go_simp
                    (with_reducible refine (before_any pp p.us p.dv _).mono ?_)
                    rintro e1 y1 ⟨rfl, hb⟩
                    have RB1 := Lib.hid (RB0.out.trans (hb.mono RB0.out.size))
                    clear hb
                    refine hKK.out _ _ (RB1.out) (fun hH1 => ?_)
                    clear hKK KK
                    try simp only [Act.put, List.setIfInBounds_toArray, List.set_cons_zero, List.set_cons_succ]
                    refine wpAnyH_take (i := 13) (oi := ({ dst := some 54, op := Op.unOp UnOp.not 4 (Operand.tmp 53), type := 4, pos := "ref.go:32", after := #[{ on := 12, ground := Ground.data }, { on := 2, ground := Ground.guard }], guard := some (2, true) } : Oper)) (v := ?hv32) rfl (by kernel_rfl) (by kernel_rfl) (by kernel_rfl) (fun _ _ _ h => h) (Or.inl ⟨by rfl, ?hy32⟩) (by assumption) ?hr32
                    case hy32 => (intro w hSw; (try dsimp only at hSw); go_simp; (try with_reducible rfl))
                    try simp only [Act.put, List.setIfInBounds_toArray, List.set_cons_zero, List.set_cons_succ]
                    refine wpAnyH_take (i := 14) (oi := ({ dst := some 55, op := Op.pick (Operand.tmp 43) (Operand.tmp 54) (Operand.const (Value.bool false)), type := 4, pos := "ref.go:32", after := #[{ on := 2, ground := Ground.data }, { on := 13, ground := Ground.data }], guard := none } : Oper)) (v := ?hv33) rfl (by kernel_rfl) (by kernel_rfl) (by kernel_rfl) (fun _ _ _ h => h) (Or.inl ⟨by rfl, ?hy33⟩) (by assumption) ?hr33
                    case hy33 => (intro w hSw; (try dsimp only at hSw); go_simp; (try with_reducible rfl))
                    try simp only [Act.put, List.setIfInBounds_toArray, List.set_cons_zero, List.set_cons_succ]
                    refine wpAnyH_done (by kernel_rfl) ?_ _
                    go_wp2
                    go_ret
                    exact ⟨ret_i64 (chk_at hlt HF.out (by decide) HO.out).symm, B3.out.trans (RB1.out.mono B3.out.size)⟩
                  · have HF := Lib.hid (show stepM zs kk = 0 by rw [HS.out, HE.out, if_pos rfl, if_neg (by rw [ho]; rintro ⟨_, h⟩; cases h)])
                    go_upto_region 9 with (first | (go_at_call 24; (with_reducible refine (HV.out _).mono ?_); rintro e w3 ⟨rfl, e3⟩; have B3 := Lib.hid (show Below w.heap.size w w3 from e3 ▸ BA.out); have X3 := Lib.hid (show Blk w3 wr.heap.size [.string p.us, .string p.dv, .int .i64 p.nx, .int .i64 p.lf] 45 from e3 ▸ XN.out); clear e3; have q0 := X3.out.cell (i := 0) rfl; have q1 := X3.out.cell (i := 1) rfl; have q2 := X3.out.cell (i := 2) rfl; have q3 := X3.out.cell (i := 3) rfl))
                    have PR : Hid (∀ u, Below w3.heap.size w3 u → World.rangeAt u b (off + (kk - 1) * 4) (enc pp)) := Lib.hid (fun u hb => by
                      obtain ⟨b2, off2, e5, _, hr2, _⟩ := HP.out hk0 u (B3.out.trans (hb.mono B3.out.size))
                      simp only [Option.some.injEq, Addr.mk.injEq, and_true] at e5
                      obtain ⟨rfl, rfl⟩ := e5
                      exact hr2)
                    generalize hbx : wr.heap.size = bx at X3 ⊢
                    clear hbx q0 q1 q2 q3
                    refine wp_region_held_drew (S := (fun w0 => Below w3.heap.size w3 w0)) (by kernel_rfl) ((Below.refl _ _).drew) (fun hH0 => ?_)
                    generalize w3.drew = y0 at hH0 ⊢
                    have RB0 : Hid (Below w3.heap.size w3 y0) := Lib.hid hH0
                    refine wpAnyH_take (i := 0) (oi := ({ dst := some 41, op := Op.move (Operand.tmp 3), type := 3, pos := "ref.go:32", after := #[], guard := none } : Oper)) (v := ?hv34) rfl (by kernel_rfl) (by kernel_rfl) (by kernel_rfl) (fun _ _ _ h => h) (Or.inl ⟨by rfl, ?hy34⟩) (by assumption) ?hr34
                    case hy34 => (intro w hSw; (try dsimp only at hSw); go_simp; (try with_reducible rfl))
                    try simp only [Act.put, List.setIfInBounds_toArray, List.set_cons_zero, List.set_cons_succ]
                    refine wpAnyH_take (i := 1) (oi := ({ dst := some 42, op := Op.binOp BinOp.gtr 3 (Operand.tmp 41) (Operand.const (Value.int IntKind.i64 0)) 3, type := 4, pos := "ref.go:32", after := #[{ on := 0, ground := Ground.data }], guard := none } : Oper)) (v := ?hv35) rfl (by kernel_rfl) (by kernel_rfl) (by kernel_rfl) (fun _ _ _ h => h) (Or.inl ⟨by rfl, ?hy35⟩) (by assumption) ?hr35
                    case hy35 => (intro w hSw; (try dsimp only at hSw); go_simp; (try with_reducible rfl))
                    try simp only [Act.put, List.setIfInBounds_toArray, List.set_cons_zero, List.set_cons_succ]
                    refine wpAnyH_take (i := 2) (oi := ({ dst := some 43, op := Op.move (Operand.tmp 42), type := 4, pos := "ref.go:32", after := #[{ on := 1, ground := Ground.data }], guard := none } : Oper)) (v := ?hv36) rfl (by kernel_rfl) (by kernel_rfl) (by kernel_rfl) (fun _ _ _ h => h) (Or.inl ⟨by rfl, ?hy36⟩) (by assumption) ?hr36
                    case hy36 => (intro w hSw; (try dsimp only at hSw); go_simp; (try with_reducible rfl))
                    try simp only [Act.put, List.setIfInBounds_toArray, List.set_cons_zero, List.set_cons_succ]
                    refine wpAnyH_take (i := 3) (oi := ({ dst := some 44, op := Op.move (Operand.tmp 0), type := 22, pos := "ref.go:32", after := #[{ on := 2, ground := Ground.guard }], guard := some (2, true) } : Oper)) (v := ?hv37) rfl (by kernel_rfl) (by kernel_rfl) (by kernel_rfl) (fun _ _ _ h => h) (Or.inl ⟨by rfl, ?hy37⟩) (by assumption) ?hr37
                    case hy37 => (intro w hSw; (try dsimp only at hSw); go_simp; (try with_reducible rfl))
                    try simp only [Act.put, List.setIfInBounds_toArray, List.set_cons_zero, List.set_cons_succ]
                    refine wpAnyH_take (i := 4) (oi := ({ dst := some 45, op := Op.move (Operand.tmp 3), type := 3, pos := "ref.go:32", after := #[{ on := 2, ground := Ground.guard }], guard := some (2, true) } : Oper)) (v := ?hv38) rfl (by kernel_rfl) (by kernel_rfl) (by kernel_rfl) (fun _ _ _ h => h) (Or.inl ⟨by rfl, ?hy38⟩) (by assumption) ?hr38
                    case hy38 => (intro w hSw; (try dsimp only at hSw); go_simp; (try with_reducible rfl))
                    try simp only [Act.put, List.setIfInBounds_toArray, List.set_cons_zero, List.set_cons_succ]
                    refine wpAnyH_take (i := 5) (oi := ({ dst := some 46, op := Op.binOp BinOp.sub 3 (Operand.tmp 45) (Operand.const (Value.int IntKind.i64 1)) 3, type := 3, pos := "ref.go:32", after := #[{ on := 4, ground := Ground.data }, { on := 2, ground := Ground.guard }], guard := some (2, true) } : Oper)) (v := ?hv39) rfl (by kernel_rfl) (by kernel_rfl) (by kernel_rfl) (fun _ _ _ h => h) (Or.inl ⟨by rfl, ?hy39⟩) (by assumption) ?hr39
                    case hy39 => (intro w hSw; (try dsimp only at hSw); go_simp; (try with_reducible rfl))
                    try simp only [Act.put, List.setIfInBounds_toArray, List.set_cons_zero, List.set_cons_succ]
                    refine wpAnyH_take (i := 6) (oi := ({ dst := some 47, op := Op.indexAddr 22 (Operand.tmp 44) (Operand.tmp 46), type := 0, pos := "ref.go:32", after := #[{ on := 3, ground := Ground.data }, { on := 5, ground := Ground.data }, { on := 2, ground := Ground.guard }], guard := some (2, true) } : Oper)) (v := ?hv40) rfl (by kernel_rfl) (by kernel_rfl) (by kernel_rfl) (fun _ _ _ h => h) (Or.inl ⟨by rfl, ?hy40⟩) (by assumption) ?hr40
                    case hy40 => (intro w hSw; (try dsimp only at hSw); go_simp; (try with_reducible rfl))
                    try simp only [Act.put, List.setIfInBounds_toArray, List.set_cons_zero, List.set_cons_succ]
                    refine wpAnyH_take (i := 7) (oi := ({ dst := some 48, op := Op.load 45 (Operand.tmp 47), type := 45, pos := "ref.go:32", after := #[{ on := 6, ground := Ground.data }, { on := 2, ground := Ground.guard }], guard := some (2, true) } : Oper)) (v := .agg #[.string pp.us, .string pp.dv, .int .i64 pp.nx, .int .i64 pp.lf]) rfl (by kernel_rfl) (by kernel_rfl) (by kernel_rfl) (fun _ _ _ h => h) (yieldsIf_load_mid (by rfl) 45 _ rfl b (off + (kk - 1) * 4) rfl [.string pp.us, .string pp.dv, .int .i64 pp.nx, .int .i64 pp.lf] _ (fun w0 hw0 => PR.out w0 hw0) Try.underlying45 rfl size45) (by assumption) ?_
                    try simp only [Act.put, List.setIfInBounds_toArray, List.set_cons_zero, List.set_cons_succ]
                    refine wpAnyH_take (i := 8) (oi := ({ dst := some 49, op := Op.fieldAddr 45 (Operand.tmp 4) 0, type := 0, pos := "ref.go:32", after := #[{ on := 2, ground := Ground.guard }], guard := some (2, true) } : Oper)) (v := ?hv41) rfl (by kernel_rfl) (by kernel_rfl) (by kernel_rfl) (fun _ _ _ h => h) (Or.inl ⟨by rfl, ?hy41⟩) (by assumption) ?hr41
                    case hy41 => (intro w hSw; (try dsimp only at hSw); go_simp; (try with_reducible rfl))
                    try simp only [Act.put, List.setIfInBounds_toArray, List.set_cons_zero, List.set_cons_succ]
                    refine wpAnyH_take (i := 9) (oi := ({ dst := some 50, op := Op.load 9 (Operand.tmp 49), type := 9, pos := "ref.go:32", after := #[{ on := 8, ground := Ground.data }, { on := 2, ground := Ground.guard }], guard := some (2, true) } : Oper)) (v := .string p.us) rfl (by kernel_rfl) (by kernel_rfl) (by kernel_rfl) (fun _ _ _ h => h) (Or.inl ⟨by rfl, fun w0 hw0 => by have q0 := (X3.out.below hw0).cell (i := 0) rfl; go_simp⟩) (by assumption) ?_
                    try simp only [Act.put, List.setIfInBounds_toArray, List.set_cons_zero, List.set_cons_succ]
                    refine wpAnyH_take (i := 10) (oi := ({ dst := some 51, op := Op.fieldAddr 45 (Operand.tmp 4) 1, type := 0, pos := "ref.go:32", after := #[{ on := 2, ground := Ground.guard }], guard := some (2, true) } : Oper)) (v := ?hv42) rfl (by kernel_rfl) (by kernel_rfl) (by kernel_rfl) (fun _ _ _ h => h) (Or.inl ⟨by rfl, ?hy42⟩) (by assumption) ?hr42
                    case hy42 => (intro w hSw; (try dsimp only at hSw); go_simp; (try with_reducible rfl))
                    try simp only [Act.put, List.setIfInBounds_toArray, List.set_cons_zero, List.set_cons_succ]
                    refine wpAnyH_take (i := 11) (oi := ({ dst := some 52, op := Op.load 9 (Operand.tmp 51), type := 9, pos := "ref.go:32", after := #[{ on := 10, ground := Ground.data }, { on := 2, ground := Ground.guard }], guard := some (2, true) } : Oper)) (v := .string p.dv) rfl (by kernel_rfl) (by kernel_rfl) (by kernel_rfl) (fun _ _ _ h => h) (Or.inl ⟨by rfl, fun w0 hw0 => by have q0 := (X3.out.below hw0).cell (i := 1) rfl; go_simp⟩) (by assumption) ?_
                    try simp only [Act.put, List.setIfInBounds_toArray, List.set_cons_zero, List.set_cons_succ]
                    refine wpAnyH_ready (rs := [12]) (by kernel_rfl) (by simp) ?_
                    refine AllReadyH.cons (o := ({ dst := some 53, op := Op.call { callee := Callee.value (Operand.func 25), args := #[Operand.tmp 48, Operand.tmp 50, Operand.tmp 52], argTypes := #[45, 9, 9] }, type := 4, pos := "ref.go:32", after := #[{ on := 7, ground := Ground.data }, { on := 9, ground := Ground.data }, { on := 11, ground := Ground.data }, { on := 2, ground := Ground.chain }, { on := 2, ground := Ground.guard }], guard := some (2, true) } : Oper)) rfl (fun KK hKK => ?_) AllReadyH.nil
                    go_simp
                    (with_reducible refine (before_any pp p.us p.dv _).mono ?_)
                    rintro e1 y1 ⟨rfl, hb⟩
                    have RB1 := Lib.hid (RB0.out.trans (hb.mono RB0.out.size))
                    clear hb
                    refine hKK.out _ _ (RB1.out) (fun hH1 => ?_)
                    clear hKK KK
                    try simp only [Act.put, List.setIfInBounds_toArray, List.set_cons_zero, List.set_cons_succ]
                    refine wpAnyH_take (i := 13) (oi := ({ dst := some 54, op := Op.unOp UnOp.not 4 (Operand.tmp 53), type := 4, pos := "ref.go:32", after := #[{ on := 12, ground := Ground.data }, { on := 2, ground := Ground.guard }], guard := some (2, true) } : Oper)) (v := ?hv43) rfl (by kernel_rfl) (by kernel_rfl) (by kernel_rfl) (fun _ _ _ h => h) (Or.inl ⟨by rfl, ?hy43⟩) (by assumption) ?hr43
                    case hy43 => (intro w hSw; (try dsimp only at hSw); go_simp; (try with_reducible rfl))
                    try simp only [Act.put, List.setIfInBounds_toArray, List.set_cons_zero, List.set_cons_succ]
                    refine wpAnyH_take (i := 14) (oi := ({ dst := some 55, op := Op.pick (Operand.tmp 43) (Operand.tmp 54) (Operand.const (Value.bool false)), type := 4, pos := "ref.go:32", after := #[{ on := 2, ground := Ground.data }, { on := 13, ground := Ground.data }], guard := none } : Oper)) (v := ?hv44) rfl (by kernel_rfl) (by kernel_rfl) (by kernel_rfl) (fun _ _ _ h => h) (Or.inl ⟨by rfl, ?hy44⟩) (by assumption) ?hr44
                    case hy44 => (intro w hSw; (try dsimp only at hSw); go_simp; (try with_reducible rfl))
                    try simp only [Act.put, List.setIfInBounds_toArray, List.set_cons_zero, List.set_cons_succ]
                    refine wpAnyH_done (by kernel_rfl) ?_ _
                    go_wp2
                    go_roundg (n - (kk + 1))
                    case measure => omega
                    case rel =>
                      refine ⟨kk + 1, by omega, by omega, by go_num, Lib.hid (fun j hj => ?_), Lib.hid (B3.out.trans (RB1.out.mono B3.out.size))⟩
                      by_cases e : j = kk
                      · subst e; exact HF.out
                      · exact HO.out j (by omega)
                · have hgz : ¬ (0 : Int) < (kk : Int) := by omega
                  have HF := Lib.hid (show stepM zs kk = 0 by rw [HS.out, HE.out, if_pos rfl, if_neg (by rintro ⟨h, _⟩; exact hk0 h)])
                  go_upto_region 9 with (first | (go_at_call 24; (with_reducible refine (HV.out _).mono ?_); rintro e w3 ⟨rfl, e3⟩; have B3 := Lib.hid (show Below w.heap.size w w3 from e3 ▸ BA.out); have X3 := Lib.hid (show Blk w3 wr.heap.size [.string p.us, .string p.dv, .int .i64 p.nx, .int .i64 p.lf] 45 from e3 ▸ XN.out); clear e3; have q0 := X3.out.cell (i := 0) rfl; have q1 := X3.out.cell (i := 1) rfl; have q2 := X3.out.cell (i := 2) rfl; have q3 := X3.out.cell (i := 3) rfl))
                  generalize hbx : wr.heap.size = bx at X3 ⊢
                  clear hbx q0 q1 q2 q3
                  refine wp_region_held_drew (S := (fun w0 => Below w3.heap.size w3 w0)) (by kernel_rfl) ((Below.refl _ _).drew) (fun hH0 => ?_)
                  generalize w3.drew = y0 at hH0 ⊢
                  have RB0 : Hid (Below w3.heap.size w3 y0) := Lib.hid hH0
                  refine wpAnyH_take (i := 0) (oi := ({ dst := some 41, op := Op.move (Operand.tmp 3), type := 3, pos := "ref.go:32", after := #[], guard := none } : Oper)) (v := ?hv45) rfl (by kernel_rfl) (by kernel_rfl) (by kernel_rfl) (fun _ _ _ h => h) (Or.inl ⟨by rfl, ?hy45⟩) (by assumption) ?hr45
                  case hy45 => (intro w hSw; (try dsimp only at hSw); go_simp; (try with_reducible rfl))
                  try simp only [Act.put, List.setIfInBounds_toArray, List.set_cons_zero, List.set_cons_succ]
                  refine wpAnyH_take (i := 1) (oi := ({ dst := some 42, op := Op.binOp BinOp.gtr 3 (Operand.tmp 41) (Operand.const (Value.int IntKind.i64 0)) 3, type := 4, pos := "ref.go:32", after := #[{ on := 0, ground := Ground.data }], guard := none } : Oper)) (v := ?hv46) rfl (by kernel_rfl) (by kernel_rfl) (by kernel_rfl) (fun _ _ _ h => h) (Or.inl ⟨by rfl, ?hy46⟩) (by assumption) ?hr46
                  case hy46 => (intro w hSw; (try dsimp only at hSw); go_simp; (try with_reducible rfl))
                  try simp only [Act.put, List.setIfInBounds_toArray, List.set_cons_zero, List.set_cons_succ]
                  refine wpAnyH_take (i := 2) (oi := ({ dst := some 43, op := Op.move (Operand.tmp 42), type := 4, pos := "ref.go:32", after := #[{ on := 1, ground := Ground.data }], guard := none } : Oper)) (v := ?hv47) rfl (by kernel_rfl) (by kernel_rfl) (by kernel_rfl) (fun _ _ _ h => h) (Or.inl ⟨by rfl, ?hy47⟩) (by assumption) ?hr47
                  case hy47 => (intro w hSw; (try dsimp only at hSw); go_simp; (try with_reducible rfl))
                  try simp only [Act.put, List.setIfInBounds_toArray, List.set_cons_zero, List.set_cons_succ]
                  refine wpAnyH_take (i := 3) (oi := ({ dst := some 44, op := Op.move (Operand.tmp 0), type := 22, pos := "ref.go:32", after := #[{ on := 2, ground := Ground.guard }], guard := some (2, true) } : Oper)) (v := undef) rfl (by kernel_rfl) (by kernel_rfl) (by kernel_rfl) (fun _ _ _ h => h) (Or.inr ⟨by rfl, rfl⟩) (by assumption) ?_
                  try simp only [Act.put, List.setIfInBounds_toArray, List.set_cons_zero, List.set_cons_succ]
                  refine wpAnyH_take (i := 4) (oi := ({ dst := some 45, op := Op.move (Operand.tmp 3), type := 3, pos := "ref.go:32", after := #[{ on := 2, ground := Ground.guard }], guard := some (2, true) } : Oper)) (v := undef) rfl (by kernel_rfl) (by kernel_rfl) (by kernel_rfl) (fun _ _ _ h => h) (Or.inr ⟨by rfl, rfl⟩) (by assumption) ?_
                  try simp only [Act.put, List.setIfInBounds_toArray, List.set_cons_zero, List.set_cons_succ]
                  refine wpAnyH_take (i := 5) (oi := ({ dst := some 46, op := Op.binOp BinOp.sub 3 (Operand.tmp 45) (Operand.const (Value.int IntKind.i64 1)) 3, type := 3, pos := "ref.go:32", after := #[{ on := 4, ground := Ground.data }, { on := 2, ground := Ground.guard }], guard := some (2, true) } : Oper)) (v := undef) rfl (by kernel_rfl) (by kernel_rfl) (by kernel_rfl) (fun _ _ _ h => h) (Or.inr ⟨by rfl, rfl⟩) (by assumption) ?_
                  try simp only [Act.put, List.setIfInBounds_toArray, List.set_cons_zero, List.set_cons_succ]
                  refine wpAnyH_take (i := 6) (oi := ({ dst := some 47, op := Op.indexAddr 22 (Operand.tmp 44) (Operand.tmp 46), type := 0, pos := "ref.go:32", after := #[{ on := 3, ground := Ground.data }, { on := 5, ground := Ground.data }, { on := 2, ground := Ground.guard }], guard := some (2, true) } : Oper)) (v := undef) rfl (by kernel_rfl) (by kernel_rfl) (by kernel_rfl) (fun _ _ _ h => h) (Or.inr ⟨by rfl, rfl⟩) (by assumption) ?_
                  try simp only [Act.put, List.setIfInBounds_toArray, List.set_cons_zero, List.set_cons_succ]
                  refine wpAnyH_take (i := 7) (oi := ({ dst := some 48, op := Op.load 45 (Operand.tmp 47), type := 45, pos := "ref.go:32", after := #[{ on := 6, ground := Ground.data }, { on := 2, ground := Ground.guard }], guard := some (2, true) } : Oper)) (v := undef) rfl (by kernel_rfl) (by kernel_rfl) (by kernel_rfl) (fun _ _ _ h => h) (Or.inr ⟨by rfl, rfl⟩) (by assumption) ?_
                  try simp only [Act.put, List.setIfInBounds_toArray, List.set_cons_zero, List.set_cons_succ]
                  refine wpAnyH_take (i := 8) (oi := ({ dst := some 49, op := Op.fieldAddr 45 (Operand.tmp 4) 0, type := 0, pos := "ref.go:32", after := #[{ on := 2, ground := Ground.guard }], guard := some (2, true) } : Oper)) (v := undef) rfl (by kernel_rfl) (by kernel_rfl) (by kernel_rfl) (fun _ _ _ h => h) (Or.inr ⟨by rfl, rfl⟩) (by assumption) ?_
                  try simp only [Act.put, List.setIfInBounds_toArray, List.set_cons_zero, List.set_cons_succ]
                  refine wpAnyH_take (i := 9) (oi := ({ dst := some 50, op := Op.load 9 (Operand.tmp 49), type := 9, pos := "ref.go:32", after := #[{ on := 8, ground := Ground.data }, { on := 2, ground := Ground.guard }], guard := some (2, true) } : Oper)) (v := undef) rfl (by kernel_rfl) (by kernel_rfl) (by kernel_rfl) (fun _ _ _ h => h) (Or.inr ⟨by rfl, rfl⟩) (by assumption) ?_
                  try simp only [Act.put, List.setIfInBounds_toArray, List.set_cons_zero, List.set_cons_succ]
                  refine wpAnyH_take (i := 10) (oi := ({ dst := some 51, op := Op.fieldAddr 45 (Operand.tmp 4) 1, type := 0, pos := "ref.go:32", after := #[{ on := 2, ground := Ground.guard }], guard := some (2, true) } : Oper)) (v := undef) rfl (by kernel_rfl) (by kernel_rfl) (by kernel_rfl) (fun _ _ _ h => h) (Or.inr ⟨by rfl, rfl⟩) (by assumption) ?_
                  try simp only [Act.put, List.setIfInBounds_toArray, List.set_cons_zero, List.set_cons_succ]
                  refine wpAnyH_take (i := 11) (oi := ({ dst := some 52, op := Op.load 9 (Operand.tmp 51), type := 9, pos := "ref.go:32", after := #[{ on := 10, ground := Ground.data }, { on := 2, ground := Ground.guard }], guard := some (2, true) } : Oper)) (v := undef) rfl (by kernel_rfl) (by kernel_rfl) (by kernel_rfl) (fun _ _ _ h => h) (Or.inr ⟨by rfl, rfl⟩) (by assumption) ?_
                  try simp only [Act.put, List.setIfInBounds_toArray, List.set_cons_zero, List.set_cons_succ]
                  refine wpAnyH_ready (rs := [12]) (by kernel_rfl) (by simp) ?_
                  refine AllReadyH.cons (o := ({ dst := some 53, op := Op.call { callee := Callee.value (Operand.func 25), args := #[Operand.tmp 48, Operand.tmp 50, Operand.tmp 52], argTypes := #[45, 9, 9] }, type := 4, pos := "ref.go:32", after := #[{ on := 7, ground := Ground.data }, { on := 9, ground := Ground.data }, { on := 11, ground := Ground.data }, { on := 2, ground := Ground.chain }, { on := 2, ground := Ground.guard }], guard := some (2, true) } : Oper)) rfl (fun KK hKK => ?_) AllReadyH.nil
                  go_simp
                  refine hKK.out _ _ (hH0) (fun hH1 => ?_)
                  clear hKK KK
                  try simp only [Act.put, List.setIfInBounds_toArray, List.set_cons_zero, List.set_cons_succ]
                  refine wpAnyH_take (i := 13) (oi := ({ dst := some 54, op := Op.unOp UnOp.not 4 (Operand.tmp 53), type := 4, pos := "ref.go:32", after := #[{ on := 12, ground := Ground.data }, { on := 2, ground := Ground.guard }], guard := some (2, true) } : Oper)) (v := undef) rfl (by kernel_rfl) (by kernel_rfl) (by kernel_rfl) (fun _ _ _ h => h) (Or.inr ⟨by rfl, rfl⟩) (by assumption) ?_
                  try simp only [Act.put, List.setIfInBounds_toArray, List.set_cons_zero, List.set_cons_succ]
                  refine wpAnyH_take (i := 14) (oi := ({ dst := some 55, op := Op.pick (Operand.tmp 43) (Operand.tmp 54) (Operand.const (Value.bool false)), type := 4, pos := "ref.go:32", after := #[{ on := 2, ground := Ground.data }, { on := 13, ground := Ground.data }], guard := none } : Oper)) (v := ?hv48) rfl (by kernel_rfl) (by kernel_rfl) (by kernel_rfl) (fun _ _ _ h => h) (Or.inl ⟨by rfl, ?hy48⟩) (by assumption) ?hr48
                  case hy48 => (intro w hSw; (try dsimp only at hSw); go_simp; (try with_reducible rfl))
                  try simp only [Act.put, List.setIfInBounds_toArray, List.set_cons_zero, List.set_cons_succ]
                  refine wpAnyH_done (by kernel_rfl) ?_ _
                  go_wp2
                  go_roundg (n - (kk + 1))
                  case measure => omega
                  case rel =>
                    refine ⟨kk + 1, by omega, by omega, by go_num, Lib.hid (fun j hj => ?_), Lib.hid (B3.out.trans (RB0.out.mono B3.out.size))⟩
                    by_cases e : j = kk
                    · subst e; exact HF.out
                    · exact HO.out j (by omega)
    · have hltz : ¬ (kk : Int) < (n : Int) := by omega
      obtain rfl : kk = n := by omega
      have HF := Lib.hid (chk_no HO.out)
      go_wp2
      go_ret
      exact ⟨ret_i64 HF.out.symm, BW.out⟩
end Go.Proofs.Ytkmocchikgmnbaa
