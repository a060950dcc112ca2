/- Identities of other networks: Bind of the reference. Bound: at most 900000 ghosts with texts of at most 100000 bytes. -/
import Derived.Test.YtkcceobncjoodaaN3
namespace Go.Proofs.Ytkcceobncjoodaa
open Go.RowKit Go.Maps
set_option linter.unusedVariables false
set_option linter.unusedSimpArgs false

set_option maxRecDepth 100000 in
set_option maxHeartbeats 4000000 in
theorem rbind17 (A : Option Addr) (n c : Nat) (zs : List Rc) (nt na sv : ByteArray) (w : World) (h : Rcs w A n c zs) (hn : n ≤ 900000) (h1 : nt.size ≤ 100000) (h2 : na.size ≤ 100000) (h3 : sv.size ≤ 100000) : Calls Try.prog 17 #[.slice A n c, .string nt, .string na, .string sv] w (BdP w zs nt na sv) := by
  have H := Lib.hid h
  have HL := Lib.hid h.len
  have HU := Lib.hid (ruser11 nt na sv h1 h2 h3 w)
  have HFd := Lib.hid (fun v (hb : Below w.heap.size w v) => find43 A n c zs nt na v (H.out.below hb) hn)
  obtain ⟨i0, hi, hz0, hz1, hz2⟩ := info_parts info44
  have HI := Lib.hid (And.intro hi (And.intro hz0 (And.intro hz1 hz2)))
  unfold UsP at HU
  unfold BdP
  clear h hi hz0 hz1 hz2
  by_cases g0 : usE nt na sv = 0
  · have HUs := Lib.hid (us_cases nt na sv)
    cases hi : idf zs nt na with
    | some x =>
      have HX := Lib.hid (bd_old g0 hi)
      obtain ⟨k, hk, hfk, hku⟩ := fidx_some hi
      rw [HL.out] at hk
      have hkz : (k : Int) < (n : Int) := by omega
      have hk0 : (0 : Int) ≤ (k : Int) := by omega
      have HAt := Lib.hid (fun v (hb : Below w.heap.size w v) => (H.out.below hb).at_ hk)
      rw [hku] at HAt
      rw [hfk] at HFd
      rw [g0] at HU
      generalize usS nt na sv = U at HU
      clear hi g0 HUs h1 h2 h3 hku hfk
      obtain ⟨b, off, eA, _⟩ := H.out.at_ hk
      subst eA
      have HAt2 := Lib.hid (fun v (hb : Below w.heap.size w v) => show v.cell? ⟨b, off + k * 3 + 2, none⟩ = some (.string x) by
        obtain ⟨b2, off2, e5, _, _, _, q2, _⟩ := HAt.out v hb
        simp only [Option.some.injEq, Addr.mk.injEq, and_true] at e5
        obtain ⟨rfl, rfl⟩ := e5
        exact q2)
      clear HAt
      go_enter Try.func17, Try.ntmps17
      go_upto_region 6 with (first
        | (go_at_call 11; (with_reducible refine HU.out.mono ?_); rintro e w1 ⟨rfl, hb1⟩; have B1 := Lib.hid hb1; clear hb1)
        | (go_at_call 43; (with_reducible refine (HFd.out _ B1.out).mono ?_); rintro e w2 ⟨rfl, hb2⟩; have B2 := Lib.hid (B1.out.trans (hb2.mono B1.out.size)); clear hb2; have q2 := HAt2.out _ B2.out)
        | go_in)
      go_quiet (fail)
      all_goals go_wp2
      all_goals go_ret3
      all_goals exact bdx_same HX.out (H.out.below (below_drewN B2.out _)) (below_drewN B2.out _)
    | none =>
      have HFn := fidx_none hi
      rw [HFn] at HFd
      by_cases g1 : 200 ≤ n
      · have HX := Lib.hid (bd_full g0 hi (by rw [HL.out]; exact g1))
        have hz2 : (200 : Int) ≤ (n : Int) := by omega
        rw [g0] at HU
        generalize usS nt na sv = U at HU
        clear hi g0 HUs h1 h2 h3 HFn
        go_enter Try.func17, Try.ntmps17
        go_wp2_with (first
          | (go_at_call 11; (with_reducible refine HU.out.mono ?_); rintro e w1 ⟨rfl, hb1⟩; have B1 := Lib.hid hb1; clear hb1)
          | (go_at_call 43; (with_reducible refine (HFd.out _ B1.out).mono ?_); rintro e w2 ⟨rfl, hb2⟩; have B2 := Lib.hid (B1.out.trans (hb2.mono B1.out.size)); clear hb2)
          | go_in)
        go_ret3
        exact bdx_none HX.out B2.out
      · have HX := Lib.hid (bd_new g0 hi (by rw [HL.out]; exact g1))
        have hz2 : ¬ (200 : Int) ≤ (n : Int) := by omega
        have HNo := Lib.hid (idm_none hi)
        have HSz := Lib.hid (show (usS nt na sv).size ≤ 9223372036854775807 by
          rcases HUs.out with ⟨_, e, _, _, _, _, e2⟩ | ⟨e, _⟩
          · rw [e, mkS_size]; omega
          · exact absurd g0 e)
        rw [g0] at HU
        generalize usS nt na sv = U at HU HX HSz
        have HF := Lib.hid (show fitR ⟨nt, na, U⟩ from ⟨by show nt.size ≤ _; omega, by show na.size ≤ _; omega, HSz.out⟩)
        clear hi g0 HUs h1 h2 h3 HFn
        go_enter Try.func17, Try.ntmps17
        go_wp2_with (first
          | (go_at_call 11; (with_reducible refine HU.out.mono ?_); rintro e w1 ⟨rfl, hb1⟩; have B1 := Lib.hid hb1; clear hb1)
          | (go_at_call 43; (with_reducible refine (HFd.out _ B1.out).mono ?_); rintro e w2 ⟨rfl, hb2⟩; have B2 := Lib.hid (B1.out.trans (hb2.mono B1.out.size)); clear hb2)
          | go_in)
        go_loopg [14] n (fun gg s14 wr => ∃ kk : Nat, kk ≤ n ∧ n - kk ≤ gg ∧ s14 = .int .i64 kk ∧ Hid (∀ j, j < kk → prec (zs.getD j t0) ⟨nt, na, U⟩ = true) ∧ Hid (Below w.heap.size w wr))
        case atStart => exact ⟨0, Nat.zero_le _, by omega, rfl, Lib.hid (fun j hj => absurd hj (Nat.not_lt_zero _)), B2⟩
        case round =>
          obtain ⟨kk, hkk, hg, rfl, HJ, BW⟩ := hrel
          by_cases hlt : kk < n
          · have hltz : (kk : Int) < (n : Int) := by omega
            obtain ⟨b, off, eA, hbl, k0, k1, k2, _⟩ := (H.out.below BW.out).at_ hlt
            have HPr := Lib.hid (show prec (zs.getD kk t0) ⟨nt, na, U⟩ = (Op.bytesLess (zs.getD kk t0).nt.toList nt.toList || (((zs.getD kk t0).nt.toList == nt.toList) && Op.bytesLess (zs.getD kk t0).na.toList na.toList)) from rfl)
            generalize hz : zs.getD kk t0 = p at k0 k1 k2 HPr
            have HZ := Lib.hid hz
            subst eA
            clear hz
            have HST : Hid (prec p ⟨nt, na, U⟩ = false → (kk < zs.length → prec (zs.getD kk t0) ⟨nt, na, U⟩ = false)) := Lib.hid (fun h _ => by rw [HZ.out]; exact h)
            cases t1_ : Op.bytesLess p.nt.toList nt.toList
            · cases t2_ : (p.nt.toList == nt.toList)
              · have HP := Lib.hid (show prec p ⟨nt, na, U⟩ = false by rw [HPr.out, t1_, t2_]; rfl)
                obtain ⟨FX, hFr, hFs⟩ : ∃ FX, (∀ w, (Instr.sliceAt 32 (.slice (some ⟨b, off, none⟩) n c) (some (.int .i64 (kk : Int))) none none).run Try.prog w = .ok (.slice FX (n - kk) (c - kk)) w) ∧ ∀ x, Below w.heap.size w x → Src x FX (n - kk) (c - kk) 3 (cl (zs.drop kk)) := ⟨_, run_fromA hkk, fun x hb => (H.out.below hb).dropSrc hkk⟩
                have rF' := hFr
                have RFs := Lib.hid (show ∀ x, Below w.heap.size w x → Src x FX (n - kk) (c - kk) 3 (cl (zs.drop kk)) from hFs)
                have rT := fun w => run_toA (A := some ⟨b, off, none⟩) (n := n) (c := c) (k := kk) (by have := H.out.cap; omega) w
                clear hFs
                go_wp2_with (first
                  | (at_builtin; refine wpList_append_any _ rfl _ _ 32 rfl w.heap.size 59 i0 _ 3 48 Try.underlying32 HI.out.1 HI.out.2.1 HI.out.2.2.1 HI.out.2.2.2 rfl (by decide) (.slice (some ⟨wr.heap.size, 0, none⟩) 0 0) 0 [] rfl (World.ownsRow_made (base := w.heap.size) (e := 59) (size := 3) _ #[] 0 BW.out.size (by decide) (by simp)) (some ⟨b, off, none⟩) kk c (cl (zs.take kk)) rfl ((H.out.below (BW.out.alloc BW.out.size _)).takeSrc hkk) (by unfold maxLen; omega) (by omega) (by have := BW.out.size; simp; omega) ?_; intro v3 w3 hgr; have B3 := Lib.hid (hgr.below (BW.out.alloc BW.out.size _) (World.ownsRow_made (base := w.heap.size) (e := 59) (size := 3) _ #[] 0 BW.out.size (by decide) (by simp))); have O3 := Lib.hid (show w3.ownsRow w.heap.size 59 3 v3 kk (cl (zs.take kk)) by have := hgr.own; rwa [Nat.zero_add, List.nil_append] at this); clear hgr)
                  | (at_builtin; refine wpList_append_any _ rfl _ _ 32 rfl w.heap.size 59 i0 _ 3 48 Try.underlying32 HI.out.1 HI.out.2.1 HI.out.2.2.1 HI.out.2.2.2 rfl (by decide) v3 kk (cl (zs.take kk)) rfl (O3.out.alloc _) (some ⟨w3.heap.size, 0, none⟩) 1 1 (enc ⟨nt, na, U⟩) rfl (one_src w3 ⟨nt, na, U⟩) (by unfold maxLen; omega) (by omega) (by have := B3.out.size; simp; omega) ?_; intro v4 w4 hgr; have B4 := Lib.hid (hgr.below (B3.out.alloc B3.out.size _) (O3.out.alloc _)); have O4 := Lib.hid hgr.own; clear hgr)
                  | (at_builtin; refine wpList_append_any _ rfl _ _ 32 rfl w.heap.size 59 i0 _ 3 48 Try.underlying32 HI.out.1 HI.out.2.1 HI.out.2.2.1 HI.out.2.2.2 rfl (by decide) v4 (kk + 1) (cl (zs.take kk) ++ enc ⟨nt, na, U⟩) rfl O4.out _ (n - kk) _ (cl (zs.drop kk)) rfl (RFs.out _ B4.out) (by unfold maxLen; omega) (by omega) B4.out.size ?_; intro v5 w5 hgr; have B5 := Lib.hid (hgr.below B4.out O4.out); have O5 := Lib.hid hgr.own; clear hgr)
                  | go_in)
                go_ret3
                exact rbd_end HX.out HL.out hn hkk HF.out H.out.fit HNo.out HJ.out (HST.out HP.out) (O5.out) B5.out
              · cases t3_ : Op.bytesLess p.na.toList na.toList
                · have HP := Lib.hid (show prec p ⟨nt, na, U⟩ = false by rw [HPr.out, t1_, t2_, t3_]; rfl)
                  obtain ⟨FX, hFr, hFs⟩ : ∃ FX, (∀ w, (Instr.sliceAt 32 (.slice (some ⟨b, off, none⟩) n c) (some (.int .i64 (kk : Int))) none none).run Try.prog w = .ok (.slice FX (n - kk) (c - kk)) w) ∧ ∀ x, Below w.heap.size w x → Src x FX (n - kk) (c - kk) 3 (cl (zs.drop kk)) := ⟨_, run_fromA hkk, fun x hb => (H.out.below hb).dropSrc hkk⟩
                  have rF' := hFr
                  have RFs := Lib.hid (show ∀ x, Below w.heap.size w x → Src x FX (n - kk) (c - kk) 3 (cl (zs.drop kk)) from hFs)
                  have rT := fun w => run_toA (A := some ⟨b, off, none⟩) (n := n) (c := c) (k := kk) (by have := H.out.cap; omega) w
                  clear hFs
                  go_wp2_with (first
                    | (at_builtin; refine wpList_append_any _ rfl _ _ 32 rfl w.heap.size 59 i0 _ 3 48 Try.underlying32 HI.out.1 HI.out.2.1 HI.out.2.2.1 HI.out.2.2.2 rfl (by decide) (.slice (some ⟨wr.heap.size, 0, none⟩) 0 0) 0 [] rfl (World.ownsRow_made (base := w.heap.size) (e := 59) (size := 3) _ #[] 0 BW.out.size (by decide) (by simp)) (some ⟨b, off, none⟩) kk c (cl (zs.take kk)) rfl ((H.out.below (BW.out.alloc BW.out.size _)).takeSrc hkk) (by unfold maxLen; omega) (by omega) (by have := BW.out.size; simp; omega) ?_; intro v3 w3 hgr; have B3 := Lib.hid (hgr.below (BW.out.alloc BW.out.size _) (World.ownsRow_made (base := w.heap.size) (e := 59) (size := 3) _ #[] 0 BW.out.size (by decide) (by simp))); have O3 := Lib.hid (show w3.ownsRow w.heap.size 59 3 v3 kk (cl (zs.take kk)) by have := hgr.own; rwa [Nat.zero_add, List.nil_append] at this); clear hgr)
                    | (at_builtin; refine wpList_append_any _ rfl _ _ 32 rfl w.heap.size 59 i0 _ 3 48 Try.underlying32 HI.out.1 HI.out.2.1 HI.out.2.2.1 HI.out.2.2.2 rfl (by decide) v3 kk (cl (zs.take kk)) rfl (O3.out.alloc _) (some ⟨w3.heap.size, 0, none⟩) 1 1 (enc ⟨nt, na, U⟩) rfl (one_src w3 ⟨nt, na, U⟩) (by unfold maxLen; omega) (by omega) (by have := B3.out.size; simp; omega) ?_; intro v4 w4 hgr; have B4 := Lib.hid (hgr.below (B3.out.alloc B3.out.size _) (O3.out.alloc _)); have O4 := Lib.hid hgr.own; clear hgr)
                    | (at_builtin; refine wpList_append_any _ rfl _ _ 32 rfl w.heap.size 59 i0 _ 3 48 Try.underlying32 HI.out.1 HI.out.2.1 HI.out.2.2.1 HI.out.2.2.2 rfl (by decide) v4 (kk + 1) (cl (zs.take kk) ++ enc ⟨nt, na, U⟩) rfl O4.out _ (n - kk) _ (cl (zs.drop kk)) rfl (RFs.out _ B4.out) (by unfold maxLen; omega) (by omega) B4.out.size ?_; intro v5 w5 hgr; have B5 := Lib.hid (hgr.below B4.out O4.out); have O5 := Lib.hid hgr.own; clear hgr)
                    | go_in)
                  go_ret3
                  exact rbd_end HX.out HL.out hn hkk HF.out H.out.fit HNo.out HJ.out (HST.out HP.out) (O5.out) B5.out
                · have HP := Lib.hid (show prec p ⟨nt, na, U⟩ = true by rw [HPr.out, t1_, t2_, t3_]; rfl)
                  go_wp2
                  go_roundg (n - (kk + 1))
                  case measure => omega
                  case rel =>
                    refine ⟨kk + 1, by omega, by omega, by go_num, Lib.hid (fun j hj => ?_), BW⟩
                    by_cases e : j = kk
                    · subst e; rw [HZ.out]; exact HP.out
                    · exact HJ.out j (by omega)
            · have HP := Lib.hid (show prec p ⟨nt, na, U⟩ = true by rw [HPr.out, t1_]; rfl)
              go_wp2
              go_roundg (n - (kk + 1))
              case measure => omega
              case rel =>
                refine ⟨kk + 1, by omega, by omega, by go_num, Lib.hid (fun j hj => ?_), BW⟩
                by_cases e : j = kk
                · subst e; rw [HZ.out]; exact HP.out
                · exact HJ.out j (by omega)
          · have hltz : ¬ (kk : Int) < (n : Int) := by omega
            obtain rfl : kk = n := by omega
            obtain ⟨FX, hFr, hFs⟩ : ∃ FX, (∀ w, (Instr.sliceAt 32 (.slice (A) kk c) (some (.int .i64 (kk : Int))) none none).run Try.prog w = .ok (.slice FX (kk - kk) (c - kk)) w) ∧ ∀ x, Below w.heap.size w x → Src x FX (kk - kk) (c - kk) 3 (cl (zs.drop kk)) := ⟨_, run_fromA hkk, fun x hb => (H.out.below hb).dropSrc hkk⟩
            have rF' := hFr
            have RFs := Lib.hid (show ∀ x, Below w.heap.size w x → Src x FX (0) (c - kk) 3 (cl (zs.drop kk)) from fun x hb => by have := hFs x hb; rwa [Nat.sub_self] at this)
            have rT := fun w => run_toA (A := A) (n := kk) (c := c) (k := kk) (by have := H.out.cap; omega) w
            clear hFs
            go_wp2_with (first
              | (at_builtin; refine wpList_append_any _ rfl _ _ 32 rfl w.heap.size 59 i0 _ 3 48 Try.underlying32 HI.out.1 HI.out.2.1 HI.out.2.2.1 HI.out.2.2.2 rfl (by decide) (.slice (some ⟨wr.heap.size, 0, none⟩) 0 0) 0 [] rfl (World.ownsRow_made (base := w.heap.size) (e := 59) (size := 3) _ #[] 0 BW.out.size (by decide) (by simp)) A kk c (cl (zs.take kk)) rfl ((H.out.below (BW.out.alloc BW.out.size _)).takeSrc hkk) (by unfold maxLen; omega) (by omega) (by have := BW.out.size; simp; omega) ?_; intro v3 w3 hgr; have B3 := Lib.hid (hgr.below (BW.out.alloc BW.out.size _) (World.ownsRow_made (base := w.heap.size) (e := 59) (size := 3) _ #[] 0 BW.out.size (by decide) (by simp))); have O3 := Lib.hid (show w3.ownsRow w.heap.size 59 3 v3 kk (cl (zs.take kk)) by have := hgr.own; rwa [Nat.zero_add, List.nil_append] at this); clear hgr)
              | (at_builtin; refine wpList_append_any _ rfl _ _ 32 rfl w.heap.size 59 i0 _ 3 48 Try.underlying32 HI.out.1 HI.out.2.1 HI.out.2.2.1 HI.out.2.2.2 rfl (by decide) v3 kk (cl (zs.take kk)) rfl (O3.out.alloc _) (some ⟨w3.heap.size, 0, none⟩) 1 1 (enc ⟨nt, na, U⟩) rfl (one_src w3 ⟨nt, na, U⟩) (by unfold maxLen; omega) (by omega) (by have := B3.out.size; simp; omega) ?_; intro v4 w4 hgr; have B4 := Lib.hid (hgr.below (B3.out.alloc B3.out.size _) (O3.out.alloc _)); have O4 := Lib.hid hgr.own; clear hgr)
              | (at_builtin; refine wpList_append_any _ rfl _ _ 32 rfl w.heap.size 59 i0 _ 3 48 Try.underlying32 HI.out.1 HI.out.2.1 HI.out.2.2.1 HI.out.2.2.2 rfl (by decide) v4 (kk + 1) (cl (zs.take kk) ++ enc ⟨nt, na, U⟩) rfl O4.out _ 0 _ (cl (zs.drop kk)) rfl (RFs.out _ B4.out) (by unfold maxLen; omega) (by omega) B4.out.size ?_; intro v5 w5 hgr; have B5 := Lib.hid (hgr.below B4.out O4.out); have O5 := Lib.hid hgr.own; clear hgr)
              | go_in)
            go_ret3
            exact rbd_end HX.out HL.out hn hkk HF.out H.out.fit HNo.out HJ.out (fun hx => absurd hx (by rw [HL.out]; omega)) (by rw [Nat.sub_self]; exact O5.out) B5.out
  · have HX := Lib.hid (bd_bad (zs := zs) g0)
    have hne : (usE nt na sv != 0) = true := by simpa using g0
    have HSe := Lib.hid (show usS nt na sv = ⟨#[]⟩ by rcases us_cases nt na sv with ⟨e, _⟩ | ⟨_, e⟩; exact absurd e g0; exact e)
    generalize usE nt na sv = r at HU HX hne
    generalize usS nt na sv = U at HU HSe
    clear g0
    go_enter Try.func17, Try.ntmps17
    go_wp2_with (go_at_call 11; (with_reducible refine HU.out.mono ?_); rintro e w1 ⟨rfl, hb1⟩; have B1 := Lib.hid hb1; clear hb1)
    go_ret3
    exact bdx_none HX.out B1.out
end Go.Proofs.Ytkcceobncjoodaa
