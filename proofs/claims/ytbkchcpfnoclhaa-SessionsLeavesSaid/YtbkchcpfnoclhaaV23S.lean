/- SessionsLeaves: its walk. -/
import Derived.Test.YtbkchcpfnoclhaaV23A
namespace Go.Proofs.Ytbkchcpfnoclhaa
open Go Go.RowKit
set_option linter.unusedVariables false
set_option linter.unusedSimpArgs false
set_option maxRecDepth 100000

set_option maxHeartbeats 16000000 in
theorem leaves_q1 (S : Ses) (A : Option Addr) (c : Nat) (A1 : Option Addr) (n1 c1 : Nat) (ms : List ByteArray) (A2 : Option Addr) (n2 c2 : Nat) (K : Nat → Kd) (yu zd : ByteArray) (ix : Int) (w : World) (h : Rcs w A S.l.length c S.l) (hnx : i64B S.nx) (hrm : S.rm.size ≤ 9223372036854775807) (hm : Strs w A1 n1 ms) (hc1 : n1 ≤ c1) (hK : Kys w A2 n2 K) (hyu : yu.size ≤ 9223372036854775807) (hzd : zd.size ≤ 9223372036854775807) (e1 : (200 : Int) < (yu.size : Int)) : Calls Try.prog 8 #[.agg #[.int .i64 S.id, .string S.rm, .int .i64 S.nx, .slice A S.l.length c], .agg #[.slice A1 n1 c1, .slice A2 n2 c2], .agg #[.string yu, .string zd], .int .i64 ix] w fun r w' => r = .returned (.bool true) ∧ Below w.heap.size w w' := by
  have S0 := Lib.hid (((blk_new w (sC S.id S.rm S.nx A S.l.length c) 24).alloc (.cells #[.slice A1 n1 c1, .slice A2 n2 c2] 42)).alloc (.cells #[.string yu, .string zd] 26))
  have T0 := Lib.hid ((blk_new2 w (.cells #[.int .i64 S.id, .string S.rm, .int .i64 S.nx, .slice A S.l.length c] 24) [.slice A1 n1 c1, .slice A2 n2 c2] 42).alloc (.cells #[.string yu, .string zd] 26))
  have V0 := Lib.hid (blk_new3 w (.cells #[.int .i64 S.id, .string S.rm, .int .i64 S.nx, .slice A S.l.length c] 24) (.cells #[.slice A1 n1 c1, .slice A2 n2 c2] 42) [.string yu, .string zd] 26)
  have B0 := Lib.hid ((((Below.refl w.heap.size w).alloc (Nat.le_refl _) (.cells #[.int .i64 S.id, .string S.rm, .int .i64 S.nx, .slice A S.l.length c] 24)).alloc (by simp) (.cells #[.slice A1 n1 c1, .slice A2 n2 c2] 42)).alloc (by simp only [World.size_alloc]; omega) (.cells #[.string yu, .string zd] 26))
  have HG := Lib.hid (great9 S.id S.rm S.nx A c S.l 40 _ (h.below B0.out) hrm)
  have HM := Lib.hid (fun y (hb : Below w.heap.size w y) => many16 A1 n1 c1 ms A2 n2 c2 K y (hm.below hb) hm.2.1 (hK.below hb))
  obtain ⟨rq, hrq⟩ : ∃ q, rdB S.l S.nx yu zd ix = q := ⟨_, rfl⟩
  have HR := Lib.hid (fun y (hb : Below w.heap.size w y) => reads13b S.id S.rm S.nx A c S.l yu zd ix rq hrq y (h.below hb))
  have HRq := Lib.hid hrq
  have H := Lib.hid h
  have HMs := Lib.hid hm
  have HKs := Lib.hid hK
  have hml := Lib.hid hm.1
  have HNx := Lib.hid hnx
  unfold GreatP at HG
  unfold ManyP at HM
  obtain ⟨i9, hi, hz0, hz1, hz2⟩ := info_parts info9
  have HI9 := Lib.hid (And.intro hi (And.intro hz0 (And.intro hz1 hz2)))
  clear h hm hK hc1 hrq hnx hi hz0 hz1 hz2
  have g0 := T0.out.cell (i := 0) rfl
  have g1 := T0.out.cell (i := 1) rfl
  have d0 := V0.out.cell (i := 0) rfl
  have d1 := V0.out.cell (i := 1) rfl
  have s0 := S0.out.cell (i := 0) rfl
  have s1 := S0.out.cell (i := 1) rfl
  have s2 := S0.out.cell (i := 2) rfl
  have s3 := S0.out.cell (i := 3) rfl
  go_enter Try.func8, Try.ntmps8
  go_upto_region 1 with (fail)
  try simp only [List.append_eq, List.cons_append, List.nil_append]
  go_wp2_with (first
    | (refine wpList_load_mid rfl 24 _ rfl w.heap.size 0 rfl (sC S.id S.rm S.nx A S.l.length c) _ S0.out.range Try.underlying24 rfl size24 ?_)
    | (go_at_call 9; (with_reducible refine HG.out.mono ?_); rintro e w1 ⟨b, rfl, hgr, hb⟩; have G1 := Lib.hid hgr; have B1 := Lib.hid (B0.out.trans (hb.mono B0.out.size)); have S1 := Lib.hid (S0.out.below hb); have T1 := Lib.hid (T0.out.below hb); have V1 := Lib.hid (V0.out.below hb); clear hgr hb; clear g0 g1 d0 d1 s0 s1 s2 s3; have g0 := T1.out.cell (i := 0) rfl; have g1 := T1.out.cell (i := 1) rfl; have d0 := V1.out.cell (i := 0) rfl; have d1 := V1.out.cell (i := 1) rfl; have s0 := S1.out.cell (i := 0) rfl; have s1 := S1.out.cell (i := 1) rfl; have s2 := S1.out.cell (i := 2) rfl; have s3 := S1.out.cell (i := 3) rfl; cases b)
    | (go_at_call 16; (with_reducible refine (HM.out _ B1.out).mono ?_); rintro e w2 ⟨b2, rfl, hmn, hb⟩; have M1 := Lib.hid hmn; have B2 := Lib.hid (B1.out.trans (hb.mono B1.out.size)); have S2 := Lib.hid (S1.out.below hb); have T2 := Lib.hid (T1.out.below hb); have V2 := Lib.hid (V1.out.below hb); clear hmn hb; clear g0 g1 d0 d1 s0 s1 s2 s3; have g0 := T2.out.cell (i := 0) rfl; have g1 := T2.out.cell (i := 1) rfl; have d0 := V2.out.cell (i := 0) rfl; have d1 := V2.out.cell (i := 1) rfl; have s0 := S2.out.cell (i := 0) rfl; have s1 := S2.out.cell (i := 1) rfl; have s2 := S2.out.cell (i := 2) rfl; have s3 := S2.out.cell (i := 3) rfl; cases b2)
    | (go_at_call 13; (with_reducible refine (HR.out _ B2.out).mono ?_); rintro e w3 ⟨rfl, hb⟩; have B3 := Lib.hid (B2.out.trans (hb.mono B2.out.size)); have S3 := Lib.hid (S2.out.below hb); have T3 := Lib.hid (T2.out.below hb); have V3 := Lib.hid (V2.out.below hb); clear hb; clear g0 g1 d0 d1 s0 s1 s2 s3; have g0 := T3.out.cell (i := 0) rfl; have g1 := T3.out.cell (i := 1) rfl; have d0 := V3.out.cell (i := 0) rfl; have d1 := V3.out.cell (i := 1) rfl; have s0 := S3.out.cell (i := 0) rfl; have s1 := S3.out.cell (i := 1) rfl; have s2 := S3.out.cell (i := 2) rfl; have s3 := S3.out.cell (i := 3) rfl; skip)
    | (go_at_call 15; (with_reducible refine (live15 _).mono ?_); rintro e w9 ⟨rfl, hb⟩; have B9 := Lib.hid hb; clear hb)
    | go_in)
  all_goals go_ret
  all_goals first | exact ⟨rfl, B3.out.trans (B9.out.mono B3.out.size)⟩ | exact ⟨rfl, B2.out.trans (B9.out.mono B2.out.size)⟩ | exact ⟨rfl, B1.out.trans (B9.out.mono B1.out.size)⟩
end Go.Proofs.Ytbkchcpfnoclhaa

namespace Go.Proofs.Ytbkchcpfnoclhaa
open Go Go.RowKit
set_option linter.unusedVariables false
set_option linter.unusedSimpArgs false
set_option maxRecDepth 100000

set_option maxHeartbeats 16000000 in
theorem leaves_q3 (S : Ses) (A : Option Addr) (c : Nat) (A1 : Option Addr) (n1 c1 : Nat) (ms : List ByteArray) (A2 : Option Addr) (n2 c2 : Nat) (K : Nat → Kd) (yu zd : ByteArray) (ix : Int) (w : World) (h : Rcs w A S.l.length c S.l) (hnx : i64B S.nx) (hrm : S.rm.size ≤ 9223372036854775807) (hm : Strs w A1 n1 ms) (hc1 : n1 ≤ c1) (hK : Kys w A2 n2 K) (hyu : yu.size ≤ 9223372036854775807) (hzd : zd.size ≤ 9223372036854775807) (e1 : ¬ (200 : Int) < (yu.size : Int)) (e2 : ¬ (200 : Int) < (zd.size : Int)) (hrt : rdB S.l S.nx yu zd ix = false) : Calls Try.prog 8 #[.agg #[.int .i64 S.id, .string S.rm, .int .i64 S.nx, .slice A S.l.length c], .agg #[.slice A1 n1 c1, .slice A2 n2 c2], .agg #[.string yu, .string zd], .int .i64 ix] w fun r w' => r = .returned (.bool true) ∧ Below w.heap.size w w' := by
  have S0 := Lib.hid (((blk_new w (sC S.id S.rm S.nx A S.l.length c) 24).alloc (.cells #[.slice A1 n1 c1, .slice A2 n2 c2] 42)).alloc (.cells #[.string yu, .string zd] 26))
  have T0 := Lib.hid ((blk_new2 w (.cells #[.int .i64 S.id, .string S.rm, .int .i64 S.nx, .slice A S.l.length c] 24) [.slice A1 n1 c1, .slice A2 n2 c2] 42).alloc (.cells #[.string yu, .string zd] 26))
  have V0 := Lib.hid (blk_new3 w (.cells #[.int .i64 S.id, .string S.rm, .int .i64 S.nx, .slice A S.l.length c] 24) (.cells #[.slice A1 n1 c1, .slice A2 n2 c2] 42) [.string yu, .string zd] 26)
  have B0 := Lib.hid ((((Below.refl w.heap.size w).alloc (Nat.le_refl _) (.cells #[.int .i64 S.id, .string S.rm, .int .i64 S.nx, .slice A S.l.length c] 24)).alloc (by simp) (.cells #[.slice A1 n1 c1, .slice A2 n2 c2] 42)).alloc (by simp only [World.size_alloc]; omega) (.cells #[.string yu, .string zd] 26))
  have HG := Lib.hid (great9 S.id S.rm S.nx A c S.l 40 _ (h.below B0.out) hrm)
  have HM := Lib.hid (fun y (hb : Below w.heap.size w y) => many16 A1 n1 c1 ms A2 n2 c2 K y (hm.below hb) hm.2.1 (hK.below hb))
  have hrq := hrt
  have HR := Lib.hid (fun y (hb : Below w.heap.size w y) => reads13b S.id S.rm S.nx A c S.l yu zd ix false hrq y (h.below hb))
  have HRq := Lib.hid hrq
  have H := Lib.hid h
  have HMs := Lib.hid hm
  have HKs := Lib.hid hK
  have hml := Lib.hid hm.1
  have HNx := Lib.hid hnx
  unfold GreatP at HG
  unfold ManyP at HM
  obtain ⟨i9, hi, hz0, hz1, hz2⟩ := info_parts info9
  have HI9 := Lib.hid (And.intro hi (And.intro hz0 (And.intro hz1 hz2)))
  clear h hm hK hc1 hrq hnx hi hz0 hz1 hz2 hrt
  have g0 := T0.out.cell (i := 0) rfl
  have g1 := T0.out.cell (i := 1) rfl
  have d0 := V0.out.cell (i := 0) rfl
  have d1 := V0.out.cell (i := 1) rfl
  have s0 := S0.out.cell (i := 0) rfl
  have s1 := S0.out.cell (i := 1) rfl
  have s2 := S0.out.cell (i := 2) rfl
  have s3 := S0.out.cell (i := 3) rfl
  go_enter Try.func8, Try.ntmps8
  go_upto_region 1 with (fail)
  try simp only [List.append_eq, List.cons_append, List.nil_append]
  go_wp2_with (first
    | (refine wpList_load_mid rfl 24 _ rfl w.heap.size 0 rfl (sC S.id S.rm S.nx A S.l.length c) _ S0.out.range Try.underlying24 rfl size24 ?_)
    | (go_at_call 9; (with_reducible refine HG.out.mono ?_); rintro e w1 ⟨b, rfl, hgr, hb⟩; have G1 := Lib.hid hgr; have B1 := Lib.hid (B0.out.trans (hb.mono B0.out.size)); have S1 := Lib.hid (S0.out.below hb); have T1 := Lib.hid (T0.out.below hb); have V1 := Lib.hid (V0.out.below hb); clear hgr hb; clear g0 g1 d0 d1 s0 s1 s2 s3; have g0 := T1.out.cell (i := 0) rfl; have g1 := T1.out.cell (i := 1) rfl; have d0 := V1.out.cell (i := 0) rfl; have d1 := V1.out.cell (i := 1) rfl; have s0 := S1.out.cell (i := 0) rfl; have s1 := S1.out.cell (i := 1) rfl; have s2 := S1.out.cell (i := 2) rfl; have s3 := S1.out.cell (i := 3) rfl; cases b)
    | (go_at_call 16; (with_reducible refine (HM.out _ B1.out).mono ?_); rintro e w2 ⟨b2, rfl, hmn, hb⟩; have M1 := Lib.hid hmn; have B2 := Lib.hid (B1.out.trans (hb.mono B1.out.size)); have S2 := Lib.hid (S1.out.below hb); have T2 := Lib.hid (T1.out.below hb); have V2 := Lib.hid (V1.out.below hb); clear hmn hb; clear g0 g1 d0 d1 s0 s1 s2 s3; have g0 := T2.out.cell (i := 0) rfl; have g1 := T2.out.cell (i := 1) rfl; have d0 := V2.out.cell (i := 0) rfl; have d1 := V2.out.cell (i := 1) rfl; have s0 := S2.out.cell (i := 0) rfl; have s1 := S2.out.cell (i := 1) rfl; have s2 := S2.out.cell (i := 2) rfl; have s3 := S2.out.cell (i := 3) rfl; cases b2)
    | (go_at_call 13; (with_reducible refine (HR.out _ B2.out).mono ?_); rintro e w3 ⟨rfl, hb⟩; have B3 := Lib.hid (B2.out.trans (hb.mono B2.out.size)); have S3 := Lib.hid (S2.out.below hb); have T3 := Lib.hid (T2.out.below hb); have V3 := Lib.hid (V2.out.below hb); clear hb; clear g0 g1 d0 d1 s0 s1 s2 s3; have g0 := T3.out.cell (i := 0) rfl; have g1 := T3.out.cell (i := 1) rfl; have d0 := V3.out.cell (i := 0) rfl; have d1 := V3.out.cell (i := 1) rfl; have s0 := S3.out.cell (i := 0) rfl; have s1 := S3.out.cell (i := 1) rfl; have s2 := S3.out.cell (i := 2) rfl; have s3 := S3.out.cell (i := 3) rfl; skip)
    | (go_at_call 15; (with_reducible refine (live15 _).mono ?_); rintro e w9 ⟨rfl, hb⟩; have B9 := Lib.hid hb; clear hb)
    | go_in)
  all_goals go_ret
  all_goals first | exact ⟨rfl, B3.out.trans (B9.out.mono B3.out.size)⟩ | exact ⟨rfl, B2.out.trans (B9.out.mono B2.out.size)⟩ | exact ⟨rfl, B1.out.trans (B9.out.mono B1.out.size)⟩
end Go.Proofs.Ytbkchcpfnoclhaa
