/- Sessions: Use, Renew, Great, Many of the reference. Bounds: as holders; at most 900000 shares. -/
import Derived.Test.YtbkchcpfnoclhaaV13
namespace Go.Proofs.Ytbkchcpfnoclhaa
open Go Go.RowKit
set_option linter.unusedVariables false
set_option linter.unusedSimpArgs false
set_option maxRecDepth 100000

set_option maxHeartbeats 4000000 in
theorem use11 (S : Ses) (A : Option Addr) (c : Nat) (m : Int) (w : World) (h : Rcs w A S.l.length c S.l) (hn : S.l.length ≤ 900000) (hnx : i64B S.nx) : Calls Try.prog 11 #[.agg #[.int .i64 S.id, .string S.rm, .int .i64 S.nx, .slice A S.l.length c], .int .i64 m] w (UseP w (useS S m)) := by
  obtain ⟨id, rm, nx, l⟩ := S
  dsimp only at h hn hnx ⊢
  have BA := Lib.hid (((Below.refl w.heap.size w).alloc (Nat.le_refl _) (.cells #[.int .i64 id, .string rm, .int .i64 nx, .slice A l.length c] 24)).alloc (by simp) (.cells #[.int .i64 0, .string ⟨#[]⟩, .int .i64 0, .slice none 0 0] 24))
  have XS := Lib.hid ((blk_new w (sC id rm nx A l.length c) 24).alloc (.cells #[.int .i64 0, .string ⟨#[]⟩, .int .i64 0, .slice none 0 0] 24))
  have XR := Lib.hid (blk_new2 w (.cells #[.int .i64 id, .string rm, .int .i64 nx, .slice A l.length c] 24) [.int .i64 0, .string ⟨#[]⟩, .int .i64 0, .slice none 0 0] 24)
  obtain ⟨i0, hi, hz0, hz1, hz2⟩ := info_parts info55
  have HI0 := Lib.hid (And.intro hi (And.intro hz0 (And.intro hz1 hz2)))
  have HL := Lib.hid h
  clear h hi hz0 hz1 hz2
  unfold i64B at hnx
  have y2 := XS.out.cell (i := 2) rfl
  have y3 := XS.out.cell (i := 3) rfl
  have hU := Lib.hid (show useS ⟨id, rm, nx, l⟩ m = if m < 1 ∨ 10000 < m ∨ nx < 0 then (s0, 0, 2) else if m ≤ nx then (s0, 0, 26) else (⟨id, rm, nx + 1, l⟩, nx, 0) from rfl)
  generalize useS ⟨id, rm, nx, l⟩ m = X at hU ⊢
  by_cases h1 : m < 1
  · have hU2 := Lib.hid (hU.out.trans (if_pos (.inl h1)))
    go_enter Try.func11, Try.ntmps11
    go_wp2_with (first
      | (refine wpList_store_mid rfl 24 _ _ rfl (w.heap.size + 1) 0 #[.int .i64 0, .string ⟨#[]⟩, .int .i64 0, .slice none 0 0] rfl rfl (Blk.there (n := 4) XR.out (by decide)) size24 (by simp [Value.oneCell']) ?_)
      | go_in)
    try simp only [Exit.inBlock, Exit.then]
    refine bodyPost_ret (results_cell_tmp2_blk rfl _ _ (w.heap.size + 1) [.int .i64 0, .string ⟨#[]⟩, .int .i64 0, .slice none 0 0] 24 _ rfl (XR.out.setAll [.int .i64 0, .string ⟨#[]⟩, .int .i64 0, .slice none 0 0] rfl) Try.underlying24 rfl size24) rfl ?_
    rw [hU2.out]
    exact ⟨_, rfl, isS_zero _, below_setRow BA.out (Nat.le_succ _) _ _⟩
  · by_cases h2 : 10000 < m
    · have hU2 := Lib.hid (hU.out.trans (if_pos (.inr (.inl h2))))
      go_enter Try.func11, Try.ntmps11
      go_wp2_with (first
        | (refine wpList_store_mid rfl 24 _ _ rfl (w.heap.size + 1) 0 #[.int .i64 0, .string ⟨#[]⟩, .int .i64 0, .slice none 0 0] rfl rfl (Blk.there (n := 4) XR.out (by decide)) size24 (by simp [Value.oneCell']) ?_)
        | go_in)
      try simp only [Exit.inBlock, Exit.then]
      refine bodyPost_ret (results_cell_tmp2_blk rfl _ _ (w.heap.size + 1) [.int .i64 0, .string ⟨#[]⟩, .int .i64 0, .slice none 0 0] 24 _ rfl (XR.out.setAll [.int .i64 0, .string ⟨#[]⟩, .int .i64 0, .slice none 0 0] rfl) Try.underlying24 rfl size24) rfl ?_
      rw [hU2.out]
      exact ⟨_, rfl, isS_zero _, below_setRow BA.out (Nat.le_succ _) _ _⟩
    · by_cases h3 : nx < 0
      · have hU2 := Lib.hid (hU.out.trans (if_pos (.inr (.inr h3))))
        go_enter Try.func11, Try.ntmps11
        go_wp2_with (first
          | (refine wpList_store_mid rfl 24 _ _ rfl (w.heap.size + 1) 0 #[.int .i64 0, .string ⟨#[]⟩, .int .i64 0, .slice none 0 0] rfl rfl (Blk.there (n := 4) XR.out (by decide)) size24 (by simp [Value.oneCell']) ?_)
          | go_in)
        try simp only [Exit.inBlock, Exit.then]
        refine bodyPost_ret (results_cell_tmp2_blk rfl _ _ (w.heap.size + 1) [.int .i64 0, .string ⟨#[]⟩, .int .i64 0, .slice none 0 0] 24 _ rfl (XR.out.setAll [.int .i64 0, .string ⟨#[]⟩, .int .i64 0, .slice none 0 0] rfl) Try.underlying24 rfl size24) rfl ?_
        rw [hU2.out]
        exact ⟨_, rfl, isS_zero _, below_setRow BA.out (Nat.le_succ _) _ _⟩
      · have hU1 := Lib.hid (hU.out.trans (if_neg (by omega)))
        by_cases h4 : m ≤ nx
        · have hU2 := Lib.hid (hU1.out.trans (if_pos h4))
          clear hU hU1
          go_enter Try.func11, Try.ntmps11
          go_wp2_with (first
            | (refine wpList_store_mid rfl 24 _ _ rfl (w.heap.size + 1) 0 #[.int .i64 0, .string ⟨#[]⟩, .int .i64 0, .slice none 0 0] rfl rfl (Blk.there (n := 4) XR.out (by decide)) size24 (by simp [Value.oneCell']) ?_)
            | go_in)
          try simp only [Exit.inBlock, Exit.then]
          refine bodyPost_ret (results_cell_tmp2_blk rfl _ _ (w.heap.size + 1) [.int .i64 0, .string ⟨#[]⟩, .int .i64 0, .slice none 0 0] 24 _ rfl (XR.out.setAll [.int .i64 0, .string ⟨#[]⟩, .int .i64 0, .slice none 0 0] rfl) Try.underlying24 rfl size24) rfl ?_
          rw [hU2.out]
          exact ⟨_, rfl, isS_zero _, below_setRow BA.out (Nat.le_succ _) _ _⟩
        · have hU2 := Lib.hid (hU1.out.trans (if_neg h4))
          clear hU hU1
          go_enter Try.func11, Try.ntmps11
          go_upto_region 6 with (fail)
          clear y2 y3
          have HL2 := Lib.hid (HL.out.below BA.out)
          have hbs : w.heap.size + 1 < ((w.alloc (.cells #[.int .i64 id, .string rm, .int .i64 nx, .slice A l.length c] 24)).alloc (.cells #[.int .i64 0, .string ⟨#[]⟩, .int .i64 0, .slice none 0 0] 24)).heap.size := XR.out.lt
          generalize hwz : World.alloc _ _ = wz at XS XR BA HL2 hbs ⊢
          clear hwz
          have y3 := XS.out.cell (i := 3) rfl
          have y4 := (XS.out.alloc (.cells #[] 55)).cell (i := 3) rfl
          have O0 := Lib.hid (World.ownsRow_made (base := wz.heap.size) (e := 55) (size := 3) wz #[] 0 (Nat.le_refl _) (by decide) (by simp))
          have BC := Lib.hid ((Below.refl wz.heap.size wz).alloc (Nat.le_refl _) (.cells #[] 55))
          have HL3 := Lib.hid (HL2.out.below BC.out)
          go_upto_region 8 with (first
            | (at_builtin; refine wpList_append_any _ rfl _ _ 22 rfl wz.heap.size 55 i0 _ 3 40 Try.underlying22 HI0.out.1 HI0.out.2.1 HI0.out.2.2.1 HI0.out.2.2.2 rfl (by decide) (.slice (some ⟨wz.heap.size, 0, none⟩) 0 0) 0 [] rfl O0.out _ l.length c (cl l) rfl HL3.out.src (by unfold maxLen; omega) (by omega) BC.out.size ?_; intro v5 w5 hgr; obtain ⟨A5, c5, rfl, hr5, hnw5⟩ := Rcs.ofOwn (show World.ownsRow w5 wz.heap.size 55 3 v5 l.length (cl l) from by have h9 := hgr.own; simpa using h9) rfl (by omega) HL.out.fit; have C5 := Lib.hid (hgr.below BC.out O0.out); have L5 := Lib.hid hr5; have NW := Lib.hid (show ∀ b off, A5 = some ⟨b, off, none⟩ → w.heap.size + 1 < b from fun b off e => Nat.lt_of_lt_of_le hbs (hnw5 b off e)); have X5 := Lib.hid (XS.out.below C5.out); have R5 := Lib.hid (XR.out.below C5.out); have B5 := Lib.hid (BA.out.trans (C5.out.mono BA.out.size)); have f2 := X5.out.free 2; have f3 := X5.out.free 3; have z2 := X5.out.cell (i := 2) rfl; have z3 := X5.out.cell (i := 3) rfl; clear hgr hr5 hnw5 y3 y4)
            | fail)
          generalize hwd : World.setCell _ _ _ = wd
          have XD := Lib.hid (show Blk wd w.heap.size (sC id rm (nx + 1) A5 l.length c5) 24 by rw [← hwd]; exact (X5.out.set 3 _).set 2 _)
          have RD := Lib.hid (show Blk wd (w.heap.size + 1) [.int .i64 0, .string ⟨#[]⟩, .int .i64 0, .slice none 0 0] 24 by rw [← hwd]; exact (R5.out.other _ _ (by simp)).other _ _ (by simp))
          have BD := Lib.hid (show Below w.heap.size w wd by rw [← hwd]; exact (B5.out.setCell (p := ⟨w.heap.size, 3, none⟩) (Nat.le_refl _) _).setCell (p := ⟨w.heap.size, 2, none⟩) (Nat.le_refl _) _)
          have LD := Lib.hid (show Rcs wd A5 l.length c5 l by rw [← hwd]; exact (L5.out.setRow (t := w.heap.size) (fun b off e => by have := NW.out b off e; omega) [.slice A5 l.length c5] 3).setRow (t := w.heap.size) (fun b off e => by have := NW.out b off e; omega) [.int .i64 (nx + 1)] 2)
          clear hwd z2 z3 f2 f3
          go_wp2_with (first
            | (refine wpList_load_mid rfl 24 _ rfl w.heap.size 0 rfl (sC id rm (nx + 1) A5 l.length c5) _ XD.out.range Try.underlying24 rfl size24 ?_)
            | (refine wpList_store_mid rfl 24 _ _ rfl (w.heap.size + 1) 0 #[.int .i64 id, .string rm, .int .i64 (nx + 1), .slice A5 l.length c5] rfl rfl (Blk.there (n := 4) RD.out (by decide)) size24 (by simp [Value.oneCell']) ?_)
            | go_in)
          try simp only [Exit.inBlock, Exit.then]
          refine bodyPost_ret (results_cell_tmp2_blk rfl _ _ (w.heap.size + 1) [.int .i64 id, .string rm, .int .i64 (nx + 1), .slice A5 l.length c5] 24 _ rfl (RD.out.setAll [.int .i64 id, .string rm, .int .i64 (nx + 1), .slice A5 l.length c5] rfl) Try.underlying24 rfl size24) rfl ?_
          rw [hU2.out]
          exact ⟨_, rfl, ⟨A5, c5, rfl, LD.out.setRow NW.out _ _⟩, below_setRow BD.out (Nat.le_succ _) _ _⟩
end Go.Proofs.Ytbkchcpfnoclhaa
