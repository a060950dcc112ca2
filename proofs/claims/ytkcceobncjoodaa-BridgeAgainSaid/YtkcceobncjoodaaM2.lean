/- Identities of other networks: byIdentity. Bound: at most 900000 ghosts. -/
import Derived.Test.YtkcceobncjoodaaM1
namespace Go.Proofs.Ytkcceobncjoodaa
open Go.RowKit Go.Maps
set_option linter.unusedVariables false
set_option linter.unusedSimpArgs false

set_option maxRecDepth 100000 in
set_option maxHeartbeats 4000000 in
theorem byIdentity38 (A : Option Addr) (n c : Nat) (zs : List Rc) (w : World) (h : Rcs w A n c zs) (hn : n ≤ 900000) : Calls Try.prog 38 #[.slice A n c] w fun e w' => e = .returned (.map (some w.heap.size)) ∧ (∃ m, MapU w' w.heap.size m (idf zs)) ∧ Below w.heap.size w w' := by
  have H := Lib.hid h
  have HOw := Lib.hid (fun p w => identity60 p w)
  clear h
  go_enter Try.func38, Try.ntmps38
  have hmm := @run_makeMap Try.prog
  go_wp2
  clear hmm
  go_loopg [5, 6, 7, 11] n (fun gg _ _ _ s11 wr => ∃ kk m : Nat, kk ≤ n ∧ n - kk ≤ gg ∧ m ≤ kk ∧ s11 = .int .i64 kk ∧ Hid (MapU wr w.heap.size m (idf (zs.take kk))) ∧ Hid (Below w.heap.size w wr))
  case atStart => exact ⟨0, 0, Nat.zero_le _, by omega, by omega, rfl, Lib.hid (MapU.made w), Lib.hid ((Below.refl _ _).alloc (Nat.le_refl _) _)⟩
  case round =>
    obtain ⟨kk, m, hkk, hg, hmk, rfl, HM, BW⟩ := hrel
    by_cases hlt : kk < n
    · have hltz : (kk : Int) < (n : Int) := by omega
      obtain ⟨b, off, eA, hbl, k0, k1, k2, hfit⟩ := (H.out.below BW.out).at_ hlt
      have HOl := Lib.hid (fun x => idf_old (zs := zs) (k := kk) (by rw [H.out.len]; exact hlt) (x := x))
      have HNe := Lib.hid (idf_new (zs := zs) (k := kk) (by rw [H.out.len]; exact hlt))
      subst eA
      generalize zs.getD kk t0 = p at k0 k1 k2 hfit HOl HNe
      have BA := Lib.hid (BW.out.alloc BW.out.size (.cells #[.string p.nt, .string p.na, .string p.us] 59))
      have MA := Lib.hid (HM.out.alloc (.cells #[.string p.nt, .string p.na, .string p.us] 59))
      have YA : Hid (Blk _ _ (enc p) 59) := Lib.hid (blk_new wr (enc p) 59)
      go_upto_region 5 with (fail)
      generalize hwa : wr.alloc (.cells #[.string p.nt, .string p.na, .string p.us] 59) = wa at BA MA ⊢
      have YA2 : Hid (Blk wa wr.heap.size (enc p) 59) := Lib.hid (hwa ▸ YA.out)
      generalize hbx : wr.heap.size = bx at YA2 ⊢
      clear hbx hwa YA k0 k1 k2
      have z0 := YA2.out.cell (i := 0) rfl
      have z1 := YA2.out.cell (i := 1) rfl
      have z2 := YA2.out.cell (i := 2) rfl
      cases hk : idf (zs.take kk) p.nt p.na with
      | none =>
        have HNw := Lib.hid (HNe.out hk)
        have HK := Lib.hid hk
        go_upto_region 7 with (go_at_call 60; (with_reducible refine (HOw.out p _).mono ?_); rintro e w1 ⟨rfl, hb1⟩; have M1 := Lib.hid (MA.out.below hb1); have Y1 := Lib.hid (YA2.out.below hb1); have B1 := Lib.hid (BA.out.trans (hb1.mono BA.out.size)); have hask := M1.out.ask hfit.1 hfit.2.1; rw [HK.out] at hask; clear hb1 z0 z1 z2)
        clear hask
        refine wp_region_held_drew (S := (fun w0 => Blk w0 bx (enc p) 59)) (by kernel_rfl) (Y1.out.drew) (fun hH0 => ?_)
        generalize hy0 : w1.drew = y0 at hH0 ⊢
        have M0 := Lib.hid (show MapU y0 w.heap.size m (idf (zs.take kk)) from hy0 ▸ M1.out.drew)
        have B0 := Lib.hid (show Below w.heap.size w y0 from hy0 ▸ B1.out.drew)
        have Y0 := Lib.hid hH0
        clear hy0 Y1 M1 B1
        refine wpAnyH_take (i := 0) (oi := ({ dst := some 24, op := Op.move (Operand.tmp 3), type := 60, pos := "bridge.go:113", after := #[], guard := none } : Oper)) (v := ?hv1) rfl (by kernel_rfl) (by kernel_rfl) (by kernel_rfl) (fun _ _ _ h => h) (Or.inl ⟨by rfl, ?hy1⟩) (by assumption) ?hr1
        case hy1 => (intro w hSw; (try dsimp only at hSw); go_simp; (try with_reducible rfl))
        try simp only [Act.put, List.setIfInBounds_toArray, List.set_cons_zero, List.set_cons_succ]
        refine wpAnyH_take (i := 1) (oi := ({ dst := some 25, op := Op.load 59 (Operand.tmp 5), type := 59, pos := "bridge.go:113", after := #[], guard := none } : Oper)) (v := .agg #[.string p.nt, .string p.na, .string p.us]) rfl (by kernel_rfl) (by kernel_rfl) (by kernel_rfl) (fun _ _ _ h => h) (yieldsIf_load_mid (by rfl) 59 _ rfl bx 0 rfl [.string p.nt, .string p.na, .string p.us] _ (fun w0 hw0 => (show Blk w0 bx (enc p) 59 from hw0).range) Try.underlying59 rfl size59) (by assumption) ?_
        try simp only [Act.put, List.setIfInBounds_toArray, List.set_cons_zero, List.set_cons_succ]
        refine wpAnyH_take (i := 3) (oi := ({ dst := some 27, op := Op.fieldAddr 59 (Operand.tmp 5) 2, type := 0, pos := "bridge.go:113", after := #[], guard := none } : Oper)) (v := ?hv2) rfl (by kernel_rfl) (by kernel_rfl) (by kernel_rfl) (fun _ _ _ h => h) (Or.inl ⟨by rfl, ?hy2⟩) (by assumption) ?hr2
        case hy2 => (intro w hSw; (try dsimp only at hSw); go_simp; (try with_reducible rfl))
        try simp only [Act.put, List.setIfInBounds_toArray, List.set_cons_zero, List.set_cons_succ]
        refine wpAnyH_take (i := 4) (oi := ({ dst := some 28, op := Op.load 9 (Operand.tmp 27), type := 9, pos := "bridge.go:113", after := #[{ on := 3, ground := Ground.data }], guard := none } : Oper)) (v := .string p.us) rfl (by kernel_rfl) (by kernel_rfl) (by kernel_rfl) (fun _ _ _ h => h) (Or.inl ⟨by rfl, fun w0 hw0 => by have q0 := (show Blk w0 bx (enc p) 59 from hw0).cell (i := 2) rfl; go_simp⟩) (by assumption) ?_
        try simp only [Act.put, List.setIfInBounds_toArray, List.set_cons_zero, List.set_cons_succ]
        refine wpAnyH_ready (rs := [2]) (by kernel_rfl) (by simp) ?_
        refine AllReadyH.cons (o := ({ dst := some 26, op := Op.call { callee := Callee.value (Operand.func 60), args := #[Operand.tmp 25], argTypes := #[59] }, type := 63, pos := "bridge.go:113", after := #[{ on := 1, ground := Ground.data }], guard := none } : Oper)) rfl (fun KK hKK => ?_) AllReadyH.nil
        go_simp
        (with_reducible refine (HOw.out p _).mono ?_)
        rintro e1 y1 ⟨rfl, hg1⟩
        have Y1 := Lib.hid (Y0.out.below hg1); have M1 := Lib.hid (M0.out.below hg1); have B1 := Lib.hid (B0.out.trans (hg1.mono B0.out.size)); clear hg1
        refine hKK.out _ _ (Y1.out) (fun hH1 => ?_)
        clear hKK KK
        try simp only [Act.put, List.setIfInBounds_toArray, List.set_cons_zero, List.set_cons_succ]
        refine wpAnyH_ready (rs := [5]) (by kernel_rfl) (by simp) ?_
        refine AllReadyH.cons (o := ({ dst := none, op := Op.mapUpdate 60 (Operand.tmp 24) (Operand.tmp 26) (Operand.tmp 28), type := 0, pos := "bridge.go:113", after := #[{ on := 0, ground := Ground.data }, { on := 2, ground := Ground.data }, { on := 4, ground := Ground.data }, { on := 2, ground := Ground.chain }, { on := 0, ground := Ground.phase }, { on := 1, ground := Ground.phase }, { on := 2, ground := Ground.phase }, { on := 3, ground := Ground.phase }, { on := 4, ground := Ground.phase }], guard := none } : Oper)) rfl (fun KK hKK => ?_) AllReadyH.nil
        obtain ⟨y2, hrun, hm, hg⟩ := M1.out.run_put (by omega) hfit.1 hfit.2.1 hfit.2.2
        have Y2 := Lib.hid (show Blk y2 bx (enc p) 59 from ⟨(hg.block bx Y1.out.lt (fun e => M1.out.ne Y1.out (by cases e; rfl))).trans Y1.out.heap⟩)
        have M2 := Lib.hid hm; have B2 := Lib.hid (below_put B1.out hg (Nat.le_refl _)); clear hm hg
        go_simp
        clear hrun
        refine hKK.out _ _ (Y2.out) (fun hH2 => ?_)
        clear hKK KK
        try simp only [Act.put, List.setIfInBounds_toArray, List.set_cons_zero, List.set_cons_succ]
        refine wpAnyH_done (by kernel_rfl) ?_ _
        go_wp2
        go_roundg (n - (kk + 1))
        case measure => omega
        case rel => exact ⟨kk + 1, m + 1, by omega, by omega, by omega, by go_num, Lib.hid (by rw [HNw.out]; exact M2.out), B2⟩
      | some x =>
        have HOd := Lib.hid (HOl.out x hk)
        have HK := Lib.hid hk
        go_wp2_with (go_at_call 60; (with_reducible refine (HOw.out p _).mono ?_); rintro e w1 ⟨rfl, hb1⟩; have M1 := Lib.hid (MA.out.below hb1); have B1 := Lib.hid (BA.out.trans (hb1.mono BA.out.size)); have hask := M1.out.ask hfit.1 hfit.2.1; rw [HK.out] at hask; clear hb1 z0 z1 z2)
        go_roundg (n - (kk + 1))
        case measure => omega
        case rel => exact ⟨kk + 1, m, by omega, by omega, by omega, by go_num, Lib.hid (by rw [HOd.out]; exact M1.out), B1⟩
    · have hltz : ¬ (kk : Int) < (n : Int) := by omega
      obtain rfl : kk = n := by omega
      go_wp2
      go_ret
      exact ⟨rfl, ⟨m, by have := HM.out; rwa [List.take_of_length_le (Nat.le_of_eq H.out.len)] at this⟩, BW.out⟩
end Go.Proofs.Ytkcceobncjoodaa
