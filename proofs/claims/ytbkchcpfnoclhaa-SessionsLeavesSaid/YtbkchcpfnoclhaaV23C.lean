/- SessionsLeaves: its walk. -/
import Derived.Test.YtbkchcpfnoclhaaV23A
namespace Go.Proofs.Ytbkchcpfnoclhaa
open Go Go.RowKit
set_option linter.unusedVariables false
set_option linter.unusedSimpArgs false
set_option maxRecDepth 100000

set_option maxHeartbeats 16000000 in
theorem leaves_o (S : Ses) (A : Option Addr) (c : Nat) (A1 : Option Addr) (n1 c1 : Nat) (ms : List ByteArray) (A2 : Option Addr) (n2 c2 : Nat) (K : Nat → Kd) (yu zd : ByteArray) (ix : Int) (w : World) (h : Rcs w A S.l.length c S.l) (hnx : i64B S.nx) (hrm : S.rm.size ≤ 9223372036854775807) (hm : Strs w A1 n1 ms) (hc1 : n1 ≤ c1) (hK : Kys w A2 n2 K) (hyu : yu.size ≤ 9223372036854775807) (hzd : zd.size ≤ 9223372036854775807) (e1 : ¬ (200 : Int) < (yu.size : Int)) (e2 : ¬ (200 : Int) < (zd.size : Int)) (hrt : rdB S.l S.nx yu zd ix = true) (hX : useS S 10000 = (⟨S.id, S.rm, S.nx + 1, S.l⟩, S.nx, 0)) : Calls Try.prog 8 #[.agg #[.int .i64 S.id, .string S.rm, .int .i64 S.nx, .slice A S.l.length c], .agg #[.slice A1 n1 c1, .slice A2 n2 c2], .agg #[.string yu, .string zd], .int .i64 ix] w fun r w' => r = .returned (.bool true) ∧ Below w.heap.size w w' := by
  have S0 := Lib.hid (((blk_new w (sC S.id S.rm S.nx A S.l.length c) 24).alloc (.cells #[.slice A1 n1 c1, .slice A2 n2 c2] 42)).alloc (.cells #[.string yu, .string zd] 26))
  have T0 := Lib.hid ((blk_new2 w (.cells #[.int .i64 S.id, .string S.rm, .int .i64 S.nx, .slice A S.l.length c] 24) [.slice A1 n1 c1, .slice A2 n2 c2] 42).alloc (.cells #[.string yu, .string zd] 26))
  have V0 := Lib.hid (blk_new3 w (.cells #[.int .i64 S.id, .string S.rm, .int .i64 S.nx, .slice A S.l.length c] 24) (.cells #[.slice A1 n1 c1, .slice A2 n2 c2] 42) [.string yu, .string zd] 26)
  have B0 := Lib.hid ((((Below.refl w.heap.size w).alloc (Nat.le_refl _) (.cells #[.int .i64 S.id, .string S.rm, .int .i64 S.nx, .slice A S.l.length c] 24)).alloc (by simp) (.cells #[.slice A1 n1 c1, .slice A2 n2 c2] 42)).alloc (by simp only [World.size_alloc]; omega) (.cells #[.string yu, .string zd] 26))
  have HG := Lib.hid (great9 S.id S.rm S.nx A c S.l 40 _ (h.below B0.out) hrm)
  have HM := Lib.hid (fun y (hb : Below w.heap.size w y) => many16 A1 n1 c1 ms A2 n2 c2 K y (hm.below hb) hm.2.1 (hK.below hb))
  have hrq := hrt
  have HR := Lib.hid (fun y (hb : Below w.heap.size w y) => reads13b S.id S.rm S.nx A c S.l yu zd ix true hrq y (h.below hb))
  have HRq := Lib.hid hrq
  have H := Lib.hid h
  have HMs := Lib.hid hm
  have HKs := Lib.hid hK
  have hml := Lib.hid hm.1
  have HNx := Lib.hid hnx
  unfold GreatP at HG
  unfold ManyP at HM
  obtain ⟨i9, hi, hz0, hz1, hz2⟩ := info_parts info9
  have HI9 := Lib.hid (And.intro hi (And.intro hz0 (And.intro hz1 hz2)))
  clear h hm hK hc1 hrq hnx hi hz0 hz1 hz2 hrt
  have g0 := T0.out.cell (i := 0) rfl
  have g1 := T0.out.cell (i := 1) rfl
  have d0 := V0.out.cell (i := 0) rfl
  have d1 := V0.out.cell (i := 1) rfl
  have s0 := S0.out.cell (i := 0) rfl
  have s1 := S0.out.cell (i := 1) rfl
  have s2 := S0.out.cell (i := 2) rfl
  have s3 := S0.out.cell (i := 3) rfl
  go_enter Try.func8, Try.ntmps8
  go_upto_region 1 with (fail)
  try simp only [List.append_eq, List.cons_append, List.nil_append]
  go_upto_region 3 with (first
    | (refine wpList_load_mid rfl 24 _ rfl w.heap.size 0 rfl (sC S.id S.rm S.nx A S.l.length c) _ S0.out.range Try.underlying24 rfl size24 ?_)
    | (go_at_call 9; (with_reducible refine HG.out.mono ?_); rintro e w1 ⟨b, rfl, hgr, hb⟩; have G1 := Lib.hid hgr; have B1 := Lib.hid (B0.out.trans (hb.mono B0.out.size)); have S1 := Lib.hid (S0.out.below hb); have T1 := Lib.hid (T0.out.below hb); have V1 := Lib.hid (V0.out.below hb); clear hgr hb; clear g0 g1 d0 d1 s0 s1 s2 s3; have g0 := T1.out.cell (i := 0) rfl; have g1 := T1.out.cell (i := 1) rfl; have d0 := V1.out.cell (i := 0) rfl; have d1 := V1.out.cell (i := 1) rfl; have s0 := S1.out.cell (i := 0) rfl; have s1 := S1.out.cell (i := 1) rfl; have s2 := S1.out.cell (i := 2) rfl; have s3 := S1.out.cell (i := 3) rfl; cases b)
    | (go_at_call 16; (with_reducible refine (HM.out _ B1.out).mono ?_); rintro e w2 ⟨b2, rfl, hmn, hb⟩; have M1 := Lib.hid hmn; have B2 := Lib.hid (B1.out.trans (hb.mono B1.out.size)); have S2 := Lib.hid (S1.out.below hb); have T2 := Lib.hid (T1.out.below hb); have V2 := Lib.hid (V1.out.below hb); clear hmn hb; clear g0 g1 d0 d1 s0 s1 s2 s3; have g0 := T2.out.cell (i := 0) rfl; have g1 := T2.out.cell (i := 1) rfl; have d0 := V2.out.cell (i := 0) rfl; have d1 := V2.out.cell (i := 1) rfl; have s0 := S2.out.cell (i := 0) rfl; have s1 := S2.out.cell (i := 1) rfl; have s2 := S2.out.cell (i := 2) rfl; have s3 := S2.out.cell (i := 3) rfl; cases b2)
    | (go_at_call 13; (with_reducible refine (HR.out _ B2.out).mono ?_); rintro e w3 ⟨rfl, hb⟩; have B3 := Lib.hid (B2.out.trans (hb.mono B2.out.size)); have S3 := Lib.hid (S2.out.below hb); have T3 := Lib.hid (T2.out.below hb); have V3 := Lib.hid (V2.out.below hb); clear hb; clear g0 g1 d0 d1 s0 s1 s2 s3; have g0 := T3.out.cell (i := 0) rfl; have g1 := T3.out.cell (i := 1) rfl; have d0 := V3.out.cell (i := 0) rfl; have d1 := V3.out.cell (i := 1) rfl; have s0 := S3.out.cell (i := 0) rfl; have s1 := S3.out.cell (i := 1) rfl; have s2 := S3.out.cell (i := 2) rfl; have s3 := S3.out.cell (i := 3) rfl; skip)
    | (go_at_call 15; (with_reducible refine (live15 _).mono ?_); rintro e w9 ⟨rfl, hb⟩; have B9 := Lib.hid hb; clear hb)
    | fail)
  · have MB := M1.out (by first | rfl | trivial)
    have GB := G1.out (by first | rfl | trivial)
    have hmlo := hml.out
    have h1n : n1 ≤ 30 := by omega
    have HDl := Lib.hid (show ∀ j, j < n2 → (K j).ds.length ≤ 900 from fun j hj => by have := MB.2.2 j hj; omega)
    have hS0 : S.l.length ≤ 900000 := by omega
    clear HG HM HR S0 T0 V0 B0 S1 T1 V1 B1 S2 T2 V2 B2 M1 G1 MB GB g0 g1 d0 d1 s0 s1 s2 s3
    have O3 : Hid (w3.ownsRow w3.heap.size 9 1 (.slice none 0 0) 0 []) := Lib.hid ⟨rfl, .inl ⟨rfl, rfl⟩⟩
    go_wp2
    go_loopg [9, 10] n1 (fun gg s9 s10 wr => ∃ (k : Nat) (v : Value), k ≤ n1 ∧ n1 - k ≤ gg ∧ v = s9 ∧ s10 = .int .i64 (k : Int) ∧ Hid (wr.ownsRow w3.heap.size 9 1 v (rstL ms yu k).length ((tx (rstL ms yu k)).map encStr)) ∧ Hid (Below w3.heap.size w3 wr))
    case atStart => exact ⟨0, _, Nat.zero_le _, by omega, rfl, rfl, O3, Lib.hid (Below.refl _ _)⟩
    case round =>
      clear O3
      obtain ⟨k, v, hk, hg, rfl, rfl, HO, BX⟩ := hrel
      have hrl := rst_len ms yu k
      have TR := Lib.hid (T3.out.below BX.out)
      have VR := Lib.hid (V3.out.below BX.out)
      have g0 := TR.out.cell (i := 0) rfl
      have g1 := TR.out.cell (i := 1) rfl
      have d0 := VR.out.cell (i := 0) rfl
      have d1 := VR.out.cell (i := 1) rfl
      by_cases hlt : k < n1
      · have hltz : (k : Int) < (n1 : Int) := by omega
        have hk0 : (0 : Int) ≤ (k : Int) := by omega
        obtain ⟨b, off, rfl, t, ht, hts, hu1, hcl⟩ := (HMs.out.below (B3.out.trans (BX.out.mono B3.out.size))).str hlt
        have HY := Lib.hid (rst_yes (ms := ms) (u := yu) (k := k) (by omega))
        have HN := Lib.hid (rst_no (ms := ms) (u := yu) (k := k) (by omega))
        rw [← ht] at HY HN
        have q0 := hcl
        clear ht hu1 hcl
        by_cases f1 : t = yu
        · have z1 : (t.toList == yu.toList) = true := by rw [f1]; exact beq_self_eq_true _
          have HT2 := Lib.hid (HN.out f1)
          clear HY HN f1
          go_wp2
          go_quiet (fail)
          go_wp2
          go_roundg (n1 - (k + 1))
          case measure => omega
          case rel => exact ⟨k + 1, v, by omega, by omega, rfl, by go_num, Lib.hid (by rw [HT2.out]; exact own_keep HO.out (fun g _ hl => rfl)), Lib.hid (bel_dn BX.out _)⟩
        · have z1 : (t.toList == yu.toList) = false := beq_eq_false_iff_ne.2 (fun e => f1 (eq_of_toList e))
          have HT2 := Lib.hid (HY.out f1)
          clear HY HN f1
          go_wp2
          go_quiet (fail)
          generalize hwd : World.drewN wr _ = wd
          have OD := Lib.hid (show wd.ownsRow w3.heap.size 9 1 v (rstL ms yu k).length ((tx (rstL ms yu k)).map encStr) by rw [← hwd]; exact own_keep HO.out (fun g _ hl => rfl))
          have BD := Lib.hid (show Below w3.heap.size w3 wd by rw [← hwd]; exact bel_dn BX.out _)
          have q1 : wd.cell? ⟨b, off + k, none⟩ = some (.string t) := by rw [← hwd]; exact q0
          clear hwd HO BX TR VR g0 g1 d0 d1 q0
          have g0 := (T3.out.below BD.out).cell (i := 0) rfl
          go_wp2_with (first
            | (at_builtin; refine wpList_append_any _ rfl _ _ 35 rfl w3.heap.size 9 i9 _ 1 16 Try.underlying35 HI9.out.1 HI9.out.2.1 HI9.out.2.2.1 HI9.out.2.2.2 rfl (by decide) v (rstL ms yu k).length _ rfl (OD.out.alloc _) _ 1 1 [.string t] rfl (str_one _ t) (by unfold maxLen; omega) (by omega) (BD.out.alloc BD.out.size _).size ?_; intro v5 w5 hgr; have B5 := Lib.hid (hgr.below (BD.out.alloc BD.out.size _) (OD.out.alloc _)); have O5 := Lib.hid hgr.own; clear hgr)
            | go_in)
          go_roundg (n1 - (k + 1))
          case measure => omega
          case rel => exact ⟨k + 1, v5, by omega, by omega, rfl, by go_num, Lib.hid (by rw [HT2.out, rst_enc, List.length_append]; exact O5.out), B5⟩
      · have hltz : ¬ (k : Int) < (n1 : Int) := by omega
        obtain rfl : k = n1 := by omega
        have hFit : Fit (tx (rstL ms yu k)) := fun x hx => by
          unfold tx at hx
          obtain ⟨d, hd, rfl⟩ := List.mem_map.1 hx
          rw [len_data']
          unfold rstL at hd
          exact HMs.out.2.2.1 d (List.mem_of_mem_take (List.mem_filter.1 hd).1)
        obtain ⟨AR, cR, rfl, hcR, _, hsR⟩ := own_strs HO.out hFit (by omega)
        rw [bs_tx] at hsR
        have BR := Lib.hid (B3.out.trans (BX.out.mono B3.out.size))
        have SR := Lib.hid (S3.out.below BX.out)
        have HSt := Lib.hid (fun y (hb : Below wr.heap.size wr y) => stale20 S.id S.rm S.nx A S.l.length c S.l AR (rstL ms yu k).length cR (rstL ms yu k) A2 n2 c2 K y ((H.out.below BR.out).below hb) (hsR.below hb) hcR (by omega) ((HKs.out.below BR.out).below hb) HDl.out)
        rw [stl_leave HRq.out rst_mem] at HSt
        generalize rstL ms yu k = rs at HSt hcR hsR hrl ⊢
        have HS1 := Lib.hid (H.out.below BR.out)
        have s3 := SR.out.cell (i := 3) rfl
        clear HO hFit hsR
        · have HU := Lib.hid (uses_use S A c 10000 _ hX wr HS1.out hS0 HNx.out)
          dsimp only at HU
          clear hX
          (try clear HS1); (try clear HNx); (try clear H); (try clear HMs); (try clear HKs); (try clear hml); (try clear HI9); (try clear HDl); (try clear T3); (try clear V3); (try clear S3); (try clear B3); (try clear hrl); (try clear hS0); (try clear hrm); (try clear hmlo); (try clear h1n)
          go_upto_region 10 with (first
            | (refine wpList_load_mid rfl 24 _ rfl w.heap.size 0 rfl (sC S.id S.rm S.nx A S.l.length c) _ SR.out.range Try.underlying24 rfl size24 ?_)
            | (go_at_call 10; (with_reducible refine HU.out.mono ?_); rintro e w4 ⟨AU, cU, rfl, hr, hb⟩; have RU := Lib.hid hr; have C4 := Lib.hid hb; clear hr hb g0 g1 d0 d1)
            | (refine store_as61 rfl 24 _ _ rfl [.int .i64 0, .string ⟨#[]⟩, .int .i64 0, .slice none 0 0] [.int .i64 S.id, .string S.rm, .int .i64 (S.nx + 1), .slice AU S.l.length cU] rfl rfl rfl size24 (by simp [Value.oneCell']) ?_; intro w5 hx hb; have X5 := Lib.hid hx; have RU5 := Lib.hid (RU.out.below hb); have C5 := Lib.hid (C4.out.trans (hb.mono C4.out.size)); clear hx hb)
            | fail)
          have S5 := Lib.hid (SR.out.below C5.out)
          have T5 := Lib.hid (TR.out.below C5.out)
          have V5 := Lib.hid (VR.out.below C5.out)
          (try clear HS1); (try clear HNx); (try clear H); (try clear HMs); (try clear HKs); (try clear hml); (try clear HI9); (try clear HDl); (try clear T3); (try clear V3); (try clear S3); (try clear B3); (try clear hrl); (try clear hS0); (try clear hrm); (try clear hmlo); (try clear h1n); (try clear HU); (try clear BX); (try clear C4); (try clear RU); (try clear SR); (try clear TR); (try clear VR)
          have g0 := T5.out.cell (i := 0) rfl
          have g1 := T5.out.cell (i := 1) rfl
          try simp only [List.append_eq, List.cons_append, List.nil_append]
          go_wp2_with (first
            | (refine wpList_load_mid rfl 24 _ rfl w.heap.size 0 rfl (sC S.id S.rm S.nx A S.l.length c) _ S5.out.range Try.underlying24 rfl size24 ?_)
            | (go_at_call 20; (with_reducible refine (HSt.out _ C5.out).mono ?_); rintro e w6 ⟨rfl, hb⟩; have C6 := Lib.hid (C5.out.trans (hb.mono C5.out.size)); have V6 := Lib.hid (V5.out.below hb); have X6 := Lib.hid (X5.out.below hb); have RU6 := Lib.hid (RU5.out.below hb); clear hb g0 g1; have d0 := V6.out.cell (i := 0) rfl; have d1 := V6.out.cell (i := 1) rfl; have x0 := X6.out.cell (i := 0) rfl; have x1 := X6.out.cell (i := 1) rfl; have x2 := X6.out.cell (i := 2) rfl; have x3 := X6.out.cell (i := 3) rfl)
            | (go_at_call 13; (with_reducible refine (reads13b S.id S.rm (S.nx + 1) AU cU S.l yu zd ix true (rd_next HRq.out) w6 RU6.out).mono ?_); rintro e w7 ⟨rfl, hb⟩; have C7 := Lib.hid (C6.out.trans (hb.mono C6.out.size)); clear hb)
            | (go_at_call 15; (with_reducible refine (live15 _).mono ?_); rintro e w9 ⟨rfl, hb⟩; have B9 := Lib.hid hb; clear hb)
            | fail)
          go_ret
          first | exact ⟨rfl, (BR.out.trans (C7.out.mono BR.out.size)).trans (B9.out.mono (BR.out.trans (C7.out.mono BR.out.size)).size)⟩ | exact ⟨rfl, (BR.out.trans (C6.out.mono BR.out.size)).trans (B9.out.mono (BR.out.trans (C6.out.mono BR.out.size)).size)⟩
  · go_ret
    first | exact ⟨rfl, B3.out.trans (B9.out.mono B3.out.size)⟩ | exact ⟨rfl, B2.out.trans (B9.out.mono B2.out.size)⟩ | exact ⟨rfl, B1.out.trans (B9.out.mono B1.out.size)⟩
  · go_ret
    first | exact ⟨rfl, B3.out.trans (B9.out.mono B3.out.size)⟩ | exact ⟨rfl, B2.out.trans (B9.out.mono B2.out.size)⟩ | exact ⟨rfl, B1.out.trans (B9.out.mono B1.out.size)⟩
end Go.Proofs.Ytbkchcpfnoclhaa
