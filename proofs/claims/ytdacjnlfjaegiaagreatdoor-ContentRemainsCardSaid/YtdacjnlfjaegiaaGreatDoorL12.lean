/- ContentRemains: its walk. No condition. -/
import Derived.Test.YtdacjnlfjaegiaaGreatDoorK36
import Derived.Test.YtdacjnlfjaegiaaGreatDoorK37
namespace Go.Proofs.YtdacjnlfjaegiaaGreatDoor
open Go Go.RowKit
set_option linter.unusedVariables false
set_option linter.unusedSimpArgs false
set_option maxRecDepth 100000

set_option maxHeartbeats 8000000 in
theorem remains_walk (k : Int) (C : Cn) (a : Ads) (w : World) (h : IsC w C a) (hl : Lt w) : Calls Tryz.prog 12 #[.int .i64 k, .agg (ccs C a).toArray] w fun e w' => e = .returned (.bool true) ∧ Below w.heap.size w w' := by
  obtain ⟨tx, n, tg, th, via, al, dn, us, ks, d, x3, x4, x5, x6, x7, x8⟩ := C
  obtain ⟨aA, aC, dA, dC, uA, uC, kA, kC⟩ := a
  have BA := Lib.hid ((Below.refl w.heap.size w).alloc (Nat.le_refl _) (.cells #[.string tx, .int .i64 n, .int .i64 tg, .bool th, .string via, .slice aA al.length aC, .slice dA dn.length dC, .slice uA us.length uC, .slice kA ks.length kC, .int .i64 d, .int .i64 x3, .int .i64 x4, .int .i64 x5, .int .i64 x6, .int .i64 x7, .int .i64 x8] 29))
  have XA := Lib.hid (blk_new w [.string tx, .int .i64 n, .int .i64 tg, .bool th, .string via, .slice aA al.length aC, .slice dA dn.length dC, .slice uA us.length uC, .slice kA ks.length kC, .int .i64 d, .int .i64 x3, .int .i64 x4, .int .i64 x5, .int .i64 x6, .int .i64 x7, .int .i64 x8] 29)
  have HF := Lib.hid (small13 _ _ _ (h.below BA.out))
  have HH := Lib.hid h
  have HL := Lib.hid hl
  clear h hl
  dsimp only [ccs] at HF
  show Calls Tryz.prog 12 #[.int .i64 k, .agg #[.string tx, .int .i64 n, .int .i64 tg, .bool th, .string via, .slice aA al.length aC, .slice dA dn.length dC, .slice uA us.length uC, .slice kA ks.length kC, .int .i64 d, .int .i64 x3, .int .i64 x4, .int .i64 x5, .int .i64 x6, .int .i64 x7, .int .i64 x8]] w _
  have HC := Lib.hid (fun y (hb : Below w.heap.size w y) => check14 k _ _ y (HH.out.below hb) (HL.out.below hb))
  have HP := Lib.hid (fun q => pchk_strip (k := k) (C := ⟨tx, n, tg, th, via, al, dn, us, ks, d, x3, x4, x5, x6, x7, x8⟩) q)
  dsimp only [ccs] at HC
  generalize hpc : pchk k ⟨tx, n, tg, th, via, al, dn, us, ks, d, x3, x4, x5, x6, x7, x8⟩ = pc at HC HP
  clear hpc
  by_cases e1 : pc = 0
  · subst e1
    have HP2 := Lib.hid (HP.out rfl)
    clear HP
    have n1 : ((0 : Int) != 0) = false := rfl
    go_enter Tryz.func12, Tryz.ntmps12
    go_upto_region 3 with (first
      | (refine wpList_load_mid rfl 29 _ rfl w.heap.size 0 rfl [.string tx, .int .i64 n, .int .i64 tg, .bool th, .string via, .slice aA al.length aC, .slice dA dn.length dC, .slice uA us.length uC, .slice kA ks.length kC, .int .i64 d, .int .i64 x3, .int .i64 x4, .int .i64 x5, .int .i64 x6, .int .i64 x7, .int .i64 x8] _ XA.out.range Tryz.underlying29 rfl size29 ?_)
      | (go_at_call 13; (with_reducible refine HF.out.mono ?_); rintro e w1 ⟨q, rfl, hq, hb⟩; have B1 := Lib.hid (BA.out.trans (hb.mono BA.out.size)); have X1 := Lib.hid (XA.out.below hb); have Q1 := Lib.hid hq; clear hq hb; cases q)
      | (refine load_mid_g (by rfl) 29 _ rfl w.heap.size 0 rfl [.string tx, .int .i64 n, .int .i64 tg, .bool th, .string via, .slice aA al.length aC, .slice dA dn.length dC, .slice uA us.length uC, .slice kA ks.length kC, .int .i64 d, .int .i64 x3, .int .i64 x4, .int .i64 x5, .int .i64 x6, .int .i64 x7, .int .i64 x8] _ X1.out.range Tryz.underlying29 rfl size29 ?_)
      | (go_at_call 14; (with_reducible refine (HC.out _ B1.out).mono ?_); rintro e w2 ⟨rfl, hb⟩; have B2 := Lib.hid (B1.out.trans (hb.mono B1.out.size)); have X2 := Lib.hid (X1.out.below hb); clear hb)
      | (go_at_call 16; (with_reducible refine (live16 _ (HL.out.below B1.out)).mono ?_); rintro e w9 ⟨rfl, hb⟩; have B9 := Lib.hid (B1.out.trans (hb.mono B1.out.size)); clear hb)
      | fail)
    · go_ret
      exact ⟨rfl, B9.out⟩
    · have HS := Lib.hid (strip21 k _ _ w2 (HH.out.below B2.out) (Q1.out (by trivial)).smc (HL.out.below B2.out))
      unfold StP at HS
      dsimp only [ccs] at HS
      clear HF XA BA HH Q1 HC B1 X1
      go_wp2_with (first
        | (refine wpList_load_mid rfl 29 _ rfl w.heap.size 0 rfl [.string tx, .int .i64 n, .int .i64 tg, .bool th, .string via, .slice aA al.length aC, .slice dA dn.length dC, .slice uA us.length uC, .slice kA ks.length kC, .int .i64 d, .int .i64 x3, .int .i64 x4, .int .i64 x5, .int .i64 x6, .int .i64 x7, .int .i64 x8] _ X2.out.range Tryz.underlying29 rfl size29 ?_)
        | (go_at_call 21; (with_reducible refine HS.out.mono ?_); rintro e w3 ⟨aL, rfl, hi, hb⟩; have B3 := Lib.hid (B2.out.trans (hb.mono B2.out.size)); have CK := Lib.hid (check14 k _ aL w3 hi (HL.out.below B3.out)); rw [HP2.out] at CK; clear hi hb HS)
        | (go_at_call 14; (with_reducible refine CK.out.mono ?_); rintro e w4 ⟨rfl, hb⟩; have B4 := Lib.hid (B3.out.trans (hb.mono B3.out.size)); clear hb)
        | (go_at_call 16; (with_reducible refine (live16 _ (HL.out.below B4.out)).mono ?_); rintro e w9 ⟨rfl, hb⟩; have B9 := Lib.hid (B4.out.trans (hb.mono B4.out.size)); clear hb)
        | fail)
      go_ret
      exact ⟨rfl, B9.out⟩
  · have n1 : (pc != 0) = true := by simpa using e1
    have n2 : (pc == 0) = false := by simpa using e1
    go_enter Tryz.func12, Tryz.ntmps12
    go_wp2_with (first
      | (refine wpList_load_mid rfl 29 _ rfl w.heap.size 0 rfl [.string tx, .int .i64 n, .int .i64 tg, .bool th, .string via, .slice aA al.length aC, .slice dA dn.length dC, .slice uA us.length uC, .slice kA ks.length kC, .int .i64 d, .int .i64 x3, .int .i64 x4, .int .i64 x5, .int .i64 x6, .int .i64 x7, .int .i64 x8] _ XA.out.range Tryz.underlying29 rfl size29 ?_)
      | (go_at_call 13; (with_reducible refine HF.out.mono ?_); rintro e w1 ⟨q, rfl, hq, hb⟩; have B1 := Lib.hid (BA.out.trans (hb.mono BA.out.size)); have X1 := Lib.hid (XA.out.below hb); have Q1 := Lib.hid hq; clear hq hb; cases q)
      | (refine load_mid_g (by rfl) 29 _ rfl w.heap.size 0 rfl [.string tx, .int .i64 n, .int .i64 tg, .bool th, .string via, .slice aA al.length aC, .slice dA dn.length dC, .slice uA us.length uC, .slice kA ks.length kC, .int .i64 d, .int .i64 x3, .int .i64 x4, .int .i64 x5, .int .i64 x6, .int .i64 x7, .int .i64 x8] _ X1.out.range Tryz.underlying29 rfl size29 ?_)
      | (go_at_call 14; (with_reducible refine (HC.out _ B1.out).mono ?_); rintro e w2 ⟨rfl, hb⟩; have B2 := Lib.hid (B1.out.trans (hb.mono B1.out.size)); have X2 := Lib.hid (X1.out.below hb); clear hb)
      | (go_at_call 16; (with_reducible refine (live16 _ (HL.out.below B2.out)).mono ?_); rintro e w9 ⟨rfl, hb⟩; have B9 := Lib.hid (B2.out.trans (hb.mono B2.out.size)); clear hb)
      | (go_at_call 16; (with_reducible refine (live16 _ (HL.out.below B1.out)).mono ?_); rintro e w9 ⟨rfl, hb⟩; have B9 := Lib.hid (B1.out.trans (hb.mono B1.out.size)); clear hb)
      | fail)
    all_goals
      go_ret
      exact ⟨rfl, B9.out⟩
end Go.Proofs.YtdacjnlfjaegiaaGreatDoor
