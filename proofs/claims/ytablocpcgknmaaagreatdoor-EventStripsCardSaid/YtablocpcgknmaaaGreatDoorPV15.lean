/- Receive. No condition. -/
import Derived.Test.YtablocpcgknmaaaGreatDoorPV14
namespace Go.Proofs.YtablocpcgknmaaaGreatDoor
open Go Go.RowKit
set_option linter.unusedVariables false
set_option linter.unusedSimpArgs false
set_option maxRecDepth 100000

/-- The form that is kept, and what Receive gives. -/
def kptE (E : Ew) : Ew := if whoB E = true then E else strE E
def rcvI (E : Ew) : Int := verI (kptE E) (whoB (kptE E))
def rcvE (E : Ew) : Ew := if rcvI E = 0 then kptE E else e0
def RcP (E : Ew) (r : Int) (w : World) (e : Ending) (w' : World) : Prop := ∃ b, e = .returned (.tuple #[.agg (ecs E b).toArray, .int .i64 r]) ∧ IsE w' E b ∧ Below w.heap.size w w'
theorem kpt_t {E : Ew} (h : whoB E = true) : kptE E = E := if_pos h
theorem kpt_f {E : Ew} (h : whoB E = false) : kptE E = strE E := if_neg (by rw [h]; decide)
set_option maxHeartbeats 16000000 in
theorem receive29 (E : Ew) (a : Aw) (w : World) (h : IsE w E a) (hs : SmZ E) (hl : Lt w) : Calls Tryz.prog 29 #[.agg (ecs E a).toArray] w (RcP (rcvE E) (rcvI E) w) := by
  unfold RcP
  have BA := Lib.hid (((Below.refl w.heap.size w).alloc (Nat.le_refl _) (.cells #[.int .i64 E.id, .string E.rm, .string E.sd, .int .i64 E.kd, .bool E.st, .string E.ky, .int .i64 E.tm, .int .i64 E.dp, .slice a.pA E.pv.length a.pC, .slice a.qA E.au.length a.qC, .string E.c.tx, .int .i64 E.c.n, .int .i64 E.c.tg, .bool E.c.th, .string E.c.via, .slice a.c.aA E.c.al.length a.c.aC, .slice a.c.dA E.c.dn.length a.c.dC, .slice a.c.uA E.c.us.length a.c.uC, .slice a.c.kA E.c.ks.length a.c.kC, .int .i64 E.c.d, .int .i64 E.c.x3, .int .i64 E.c.x4, .int .i64 E.c.x5, .int .i64 E.c.x6, .int .i64 E.c.x7, .int .i64 E.c.x8, .int .i64 E.hs, .string E.sv, .int .i64 E.sm] 34)).alloc (by simp) (.cells #[.int .i64 0, .string ⟨#[]⟩, .string ⟨#[]⟩, .int .i64 0, .bool false, .string ⟨#[]⟩, .int .i64 0, .int .i64 0, .slice none 0 0, .slice none 0 0, .string ⟨#[]⟩, .int .i64 0, .int .i64 0, .bool false, .string ⟨#[]⟩, .slice none 0 0, .slice none 0 0, .slice none 0 0, .slice none 0 0, .int .i64 0, .int .i64 0, .int .i64 0, .int .i64 0, .int .i64 0, .int .i64 0, .int .i64 0, .int .i64 0, .string ⟨#[]⟩, .int .i64 0] 34))
  have X0 := Lib.hid ((blk_new w [.int .i64 E.id, .string E.rm, .string E.sd, .int .i64 E.kd, .bool E.st, .string E.ky, .int .i64 E.tm, .int .i64 E.dp, .slice a.pA E.pv.length a.pC, .slice a.qA E.au.length a.qC, .string E.c.tx, .int .i64 E.c.n, .int .i64 E.c.tg, .bool E.c.th, .string E.c.via, .slice a.c.aA E.c.al.length a.c.aC, .slice a.c.dA E.c.dn.length a.c.dC, .slice a.c.uA E.c.us.length a.c.uC, .slice a.c.kA E.c.ks.length a.c.kC, .int .i64 E.c.d, .int .i64 E.c.x3, .int .i64 E.c.x4, .int .i64 E.c.x5, .int .i64 E.c.x6, .int .i64 E.c.x7, .int .i64 E.c.x8, .int .i64 E.hs, .string E.sv, .int .i64 E.sm] 34).alloc (.cells #[.int .i64 0, .string ⟨#[]⟩, .string ⟨#[]⟩, .int .i64 0, .bool false, .string ⟨#[]⟩, .int .i64 0, .int .i64 0, .slice none 0 0, .slice none 0 0, .string ⟨#[]⟩, .int .i64 0, .int .i64 0, .bool false, .string ⟨#[]⟩, .slice none 0 0, .slice none 0 0, .slice none 0 0, .slice none 0 0, .int .i64 0, .int .i64 0, .int .i64 0, .int .i64 0, .int .i64 0, .int .i64 0, .int .i64 0, .int .i64 0, .string ⟨#[]⟩, .int .i64 0] 34))
  have R0 := Lib.hid (blk_new2 w (.cells #[.int .i64 E.id, .string E.rm, .string E.sd, .int .i64 E.kd, .bool E.st, .string E.ky, .int .i64 E.tm, .int .i64 E.dp, .slice a.pA E.pv.length a.pC, .slice a.qA E.au.length a.qC, .string E.c.tx, .int .i64 E.c.n, .int .i64 E.c.tg, .bool E.c.th, .string E.c.via, .slice a.c.aA E.c.al.length a.c.aC, .slice a.c.dA E.c.dn.length a.c.dC, .slice a.c.uA E.c.us.length a.c.uC, .slice a.c.kA E.c.ks.length a.c.kC, .int .i64 E.c.d, .int .i64 E.c.x3, .int .i64 E.c.x4, .int .i64 E.c.x5, .int .i64 E.c.x6, .int .i64 E.c.x7, .int .i64 E.c.x8, .int .i64 E.hs, .string E.sv, .int .i64 E.sm] 34) [.int .i64 0, .string ⟨#[]⟩, .string ⟨#[]⟩, .int .i64 0, .bool false, .string ⟨#[]⟩, .int .i64 0, .int .i64 0, .slice none 0 0, .slice none 0 0, .string ⟨#[]⟩, .int .i64 0, .int .i64 0, .bool false, .string ⟨#[]⟩, .slice none 0 0, .slice none 0 0, .slice none 0 0, .slice none 0 0, .int .i64 0, .int .i64 0, .int .i64 0, .int .i64 0, .int .i64 0, .int .i64 0, .int .i64 0, .int .i64 0, .string ⟨#[]⟩, .int .i64 0] 34)
  have HE := Lib.hid h
  have HK := Lib.hid (fun y (hb : Below w.heap.size w y) => clone54 E a y (h.below hb) hs.v)
  unfold ClN at HK
  have HW := Lib.hid (fun y (hb : Below w.heap.size w y) => whole21 E a y (h.below hb) hs.c)
  have HC := Lib.hid (fun y (hb : Below w.heap.size w y) => strip21 E.kd E.c a.c y (h.c.below hb) hs.c.smc (hl.below hb))
  unfold StN at HC
  have HL := Lib.hid hl
  have HSM := Lib.hid hs
  have HRD := Lib.hid (show rcvE E = if rcvI E = 0 then kptE E else e0 from rfl)
  have HRI := Lib.hid (show rcvI E = verI (kptE E) (whoB (kptE E)) from rfl)
  clear h hs hl
  show Calls Tryz.prog 29 #[.agg #[.int .i64 E.id, .string E.rm, .string E.sd, .int .i64 E.kd, .bool E.st, .string E.ky, .int .i64 E.tm, .int .i64 E.dp, .slice a.pA E.pv.length a.pC, .slice a.qA E.au.length a.qC, .string E.c.tx, .int .i64 E.c.n, .int .i64 E.c.tg, .bool E.c.th, .string E.c.via, .slice a.c.aA E.c.al.length a.c.aC, .slice a.c.dA E.c.dn.length a.c.dC, .slice a.c.uA E.c.us.length a.c.uC, .slice a.c.kA E.c.ks.length a.c.kC, .int .i64 E.c.d, .int .i64 E.c.x3, .int .i64 E.c.x4, .int .i64 E.c.x5, .int .i64 E.c.x6, .int .i64 E.c.x7, .int .i64 E.c.x8, .int .i64 E.hs, .string E.sv, .int .i64 E.sm]] w _
  generalize hW0 : (w.alloc (.cells #[.int .i64 E.id, .string E.rm, .string E.sd, .int .i64 E.kd, .bool E.st, .string E.ky, .int .i64 E.tm, .int .i64 E.dp, .slice a.pA E.pv.length a.pC, .slice a.qA E.au.length a.qC, .string E.c.tx, .int .i64 E.c.n, .int .i64 E.c.tg, .bool E.c.th, .string E.c.via, .slice a.c.aA E.c.al.length a.c.aC, .slice a.c.dA E.c.dn.length a.c.dC, .slice a.c.uA E.c.us.length a.c.uC, .slice a.c.kA E.c.ks.length a.c.kC, .int .i64 E.c.d, .int .i64 E.c.x3, .int .i64 E.c.x4, .int .i64 E.c.x5, .int .i64 E.c.x6, .int .i64 E.c.x7, .int .i64 E.c.x8, .int .i64 E.hs, .string E.sv, .int .i64 E.sm] 34)).alloc (.cells #[.int .i64 0, .string ⟨#[]⟩, .string ⟨#[]⟩, .int .i64 0, .bool false, .string ⟨#[]⟩, .int .i64 0, .int .i64 0, .slice none 0 0, .slice none 0 0, .string ⟨#[]⟩, .int .i64 0, .int .i64 0, .bool false, .string ⟨#[]⟩, .slice none 0 0, .slice none 0 0, .slice none 0 0, .slice none 0 0, .int .i64 0, .int .i64 0, .int .i64 0, .int .i64 0, .int .i64 0, .int .i64 0, .int .i64 0, .int .i64 0, .string ⟨#[]⟩, .int .i64 0] 34) = W0 at BA X0 R0
  cases hwb : whoB E
  · have HKP := Lib.hid (kpt_f hwb)
    simp only [hwb] at HW
    rw [HKP.out] at HRD HRI
    have HD := Lib.hid (show strE E = E.wc (strip E.kd E.c) from rfl)
    have HSK := Lib.hid (str_smz HSM.out)
    generalize strE E = K at HD HRD HRI HSK
    generalize strip E.kd E.c = C2 at HC HD
    have HWK := Lib.hid (fun b y (hi : IsE y K b) => whole21 K b y hi HSK.out.c)
    have HVK := Lib.hid (fun b y (hi : IsE y K b) (hb : Below w.heap.size w y) => verify58 K b (whoB K) y hi HSK.out (HL.out.below hb))
    generalize whoB K = bk at HRI HWK HVK
    rw [← HRI.out] at HVK
    generalize rcvI E = v at HRD HVK ⊢
    clear hwb
    go_enter Tryz.func29, Tryz.ntmps29
    go_upto_region 2 with (first
      | (refine wpList_load_mid rfl 34 _ rfl w.heap.size 0 rfl [.int .i64 E.id, .string E.rm, .string E.sd, .int .i64 E.kd, .bool E.st, .string E.ky, .int .i64 E.tm, .int .i64 E.dp, .slice a.pA E.pv.length a.pC, .slice a.qA E.au.length a.qC, .string E.c.tx, .int .i64 E.c.n, .int .i64 E.c.tg, .bool E.c.th, .string E.c.via, .slice a.c.aA E.c.al.length a.c.aC, .slice a.c.dA E.c.dn.length a.c.dC, .slice a.c.uA E.c.us.length a.c.uC, .slice a.c.kA E.c.ks.length a.c.kC, .int .i64 E.c.d, .int .i64 E.c.x3, .int .i64 E.c.x4, .int .i64 E.c.x5, .int .i64 E.c.x6, .int .i64 E.c.x7, .int .i64 E.c.x8, .int .i64 E.hs, .string E.sv, .int .i64 E.sm] _ X0.out.range Tryz.underlying34 rfl size34 ?_)
      | (go_at_call 54; (with_reducible refine (HK.out W0 BA.out).mono ?_); rintro e w1 ⟨b, rfl, hi, hb, hn⟩; have I1 := Lib.hid hi; have N1 := Lib.hid (fun g hg => hn g (Nat.lt_of_lt_of_le hg R0.out.lt)); have B1 := Lib.hid (BA.out.trans (hb.mono BA.out.size)); have X1 := Lib.hid (X0.out.below hb); have R1 := Lib.hid (R0.out.below hb); clear hi hn hb HK)
      | (refine store_as34 rfl 34 _ _ rfl [.int .i64 0, .string ⟨#[]⟩, .string ⟨#[]⟩, .int .i64 0, .bool false, .string ⟨#[]⟩, .int .i64 0, .int .i64 0, .slice none 0 0, .slice none 0 0, .string ⟨#[]⟩, .int .i64 0, .int .i64 0, .bool false, .string ⟨#[]⟩, .slice none 0 0, .slice none 0 0, .slice none 0 0, .slice none 0 0, .int .i64 0, .int .i64 0, .int .i64 0, .int .i64 0, .int .i64 0, .int .i64 0, .int .i64 0, .int .i64 0, .string ⟨#[]⟩, .int .i64 0] (ecs E b) rfl rfl rfl size34 (ecs_one _ _) ?_; intro w2 hx hb; have P2 := Lib.hid hx; have I2 := Lib.hid (I1.out.below hb); have A2 := Lib.hid (I1.out.ap (Nat.le_refl w1.heap.size)); have B2 := Lib.hid (B1.out.trans (hb.mono B1.out.size)); have X2 := Lib.hid (X1.out.below hb); have R2 := Lib.hid (R1.out.below hb); have L2 := Lib.hid (R1.out.lt); clear hx hb I1 X1 R1)
      | fail)
    go_upto_region 4 with (first
      | (refine wpList_load_mid rfl 34 _ rfl w.heap.size 0 rfl [.int .i64 E.id, .string E.rm, .string E.sd, .int .i64 E.kd, .bool E.st, .string E.ky, .int .i64 E.tm, .int .i64 E.dp, .slice a.pA E.pv.length a.pC, .slice a.qA E.au.length a.qC, .string E.c.tx, .int .i64 E.c.n, .int .i64 E.c.tg, .bool E.c.th, .string E.c.via, .slice a.c.aA E.c.al.length a.c.aC, .slice a.c.dA E.c.dn.length a.c.dC, .slice a.c.uA E.c.us.length a.c.uC, .slice a.c.kA E.c.ks.length a.c.kC, .int .i64 E.c.d, .int .i64 E.c.x3, .int .i64 E.c.x4, .int .i64 E.c.x5, .int .i64 E.c.x6, .int .i64 E.c.x7, .int .i64 E.c.x8, .int .i64 E.hs, .string E.sv, .int .i64 E.sm] _ X2.out.range Tryz.underlying34 rfl size34 ?_)
      | (go_at_call 21; (with_reducible refine (HW.out w2 B2.out).mono ?_); rintro e w3 ⟨rfl, hb⟩; have P3 := Lib.hid (P2.out.below hb); have I3 := Lib.hid (I2.out.below hb); have B3 := Lib.hid (B2.out.trans (hb.mono B2.out.size)); have X3 := Lib.hid (X2.out.below hb); have R3 := Lib.hid (R2.out.below hb); clear hb HW)
      | fail)
    have y3 := X3.out.cell (i := 3) rfl
    go_upto_region 5 with (first
      | (refine wpList_load_mid rfl 30 _ rfl w.heap.size 10 rfl (ccs E.c a.c) _ (X3.out.mid 10 16) Tryz.underlying30 rfl size29 ?_)
      | (go_at_call 53; (with_reducible refine (HC.out w3 B3.out).mono ?_); rintro e w4 ⟨b1, rfl, hi, hb, hn⟩; have K4 := Lib.hid hi; have N4 := Lib.hid hn; have P4 := Lib.hid (P3.out.below hb); have I4 := Lib.hid (I3.out.below hb); have B4 := Lib.hid (B3.out.trans (hb.mono B3.out.size)); have R4 := Lib.hid (R3.out.below hb); have LP := Lib.hid P3.out.lt; have LR := Lib.hid R3.out.lt; clear hi hn hb HC y3)
      | (refine store_mid_as rfl 30 _ _ rfl w1.heap.size 10 (ccs C2 b1).toArray rfl rfl (Blk.thereAt P4.out 10 16 (show (10 : Nat) + 16 ≤ 29 by decide)) size29 (by simp [Value.oneCell']) ?_; intro u5 eu; have P := Lib.hid (show Blk u5 w1.heap.size (ecs K (b.wc b1)) 34 by rw [eu, HD.out]; exact set_midl (ccs C2 b1) [.int .i64 E.id, .string E.rm, .string E.sd, .int .i64 E.kd, .bool E.st, .string E.ky, .int .i64 E.tm, .int .i64 E.dp, .slice b.pA E.pv.length b.pC, .slice b.qA E.au.length b.qC] (ccs E.c b.c) [.int .i64 E.hs, .string E.sv, .int .i64 E.sm] w4 P4.out rfl); have R := Lib.hid (show Blk u5 (w.heap.size + 1) [.int .i64 0, .string ⟨#[]⟩, .string ⟨#[]⟩, .int .i64 0, .bool false, .string ⟨#[]⟩, .int .i64 0, .int .i64 0, .slice none 0 0, .slice none 0 0, .string ⟨#[]⟩, .int .i64 0, .int .i64 0, .bool false, .string ⟨#[]⟩, .slice none 0 0, .slice none 0 0, .slice none 0 0, .slice none 0 0, .int .i64 0, .int .i64 0, .int .i64 0, .int .i64 0, .int .i64 0, .int .i64 0, .int .i64 0, .int .i64 0, .string ⟨#[]⟩, .int .i64 0] 34 by rw [eu]; exact R4.out.otherAll _ _ _ (by have := L2.out; omega)); have Bl := Lib.hid (show Below w.heap.size w u5 by rw [eu]; exact below_setAll (by have := L2.out; omega) _ _ _ B4.out); have I5 := Lib.hid (show IsE u5 E b by rw [eu]; exact I4.out.otherE _ _ _ A2.out); have K5 := Lib.hid (show IsC u5 C2 b1 by rw [eu]; exact K4.out.otherC _ _ _ (N4.out _ LP.out)); clear eu I4 K4 P4 R4 B4)
      | fail)
    have h5 := I5.out
    have I := Lib.hid (show IsE u5 K (b.wc b1) by rw [HD.out]; exact { h5 with c := K5.out })
    have AR := Lib.hid (show ApE (w.heap.size + 1) K (b.wc b1) by rw [HD.out]; exact ⟨(N1.out _ (by omega)).pv, (N1.out _ (by omega)).au, N4.out _ LR.out⟩)
    clear h5 I5 K5
    go_upto_region 6 with (first
      | (refine wpList_load_mid rfl 34 _ rfl w1.heap.size 0 rfl (ecs K (b.wc b1)) _ P.out.range Tryz.underlying34 rfl size34 ?_)
      | (go_at_call 21; (with_reducible refine (HWK.out (b.wc b1) u5 I.out).mono ?_); rintro e w6 ⟨rfl, hb⟩; replace P := Lib.hid (P.out.below hb); replace I := Lib.hid (I.out.below hb); replace R := Lib.hid (R.out.below hb); replace Bl := Lib.hid (Bl.out.trans (hb.mono Bl.out.size)); clear hb)
      | fail)
    have HVF := Lib.hid (HVK.out (b.wc b1) w6 I.out Bl.out)
    clear HVK HWK
    by_cases hv : v = 0
    · subst hv
      have HY := Lib.hid (show rcvE E = K by rw [HRD.out]; exact if_pos rfl)
      go_wp2_with (first
        | (refine wpList_load_mid rfl 34 _ rfl w1.heap.size 0 rfl (ecs K (b.wc b1)) _ P.out.range Tryz.underlying34 rfl size34 ?_)
        | (go_at_call 58; (with_reducible refine HVF.out.mono ?_); rintro e wv ⟨rfl, hb⟩; replace P := Lib.hid (P.out.below hb); replace I := Lib.hid (I.out.below hb); replace R := Lib.hid (R.out.below hb); replace Bl := Lib.hid (Bl.out.trans (hb.mono Bl.out.size)); clear hb)
        | (refine wpList_load_mid rfl 34 _ rfl w1.heap.size 0 rfl (ecs K (b.wc b1)) _ P.out.range Tryz.underlying34 rfl size34 ?_)
        | (refine store_mid_as rfl 34 _ _ rfl (w.heap.size + 1) 0 (ecs K (b.wc b1)).toArray rfl rfl (Blk.there (n := 29) R.out (Nat.le_refl 29)) size34 (ecs_one _ _) ?_; intro wz ez; have EZ := Lib.hid ez; clear ez)
        | fail)
      (try simp only [Exit.inBlock, Exit.then])
      refine bodyPost_ret (results_cell_tmp_blk rfl _ _ (w.heap.size + 1) (ecs K (b.wc b1)) 34 _ rfl (by rw [EZ.out]; exact Blk.setAll R.out _ rfl) Tryz.underlying34 rfl size34) rfl ?_
      rw [EZ.out, HY.out]
      exact ⟨(b.wc b1), rfl, I.out.otherE _ _ _ AR.out, below_setAll (Nat.le_succ _) _ _ _ Bl.out⟩
    · have HY := Lib.hid (show rcvE E = e0 by rw [HRD.out]; exact if_neg hv)
      have z0 : (v == 0) = false := beq_eq_false_iff_ne.2 hv
      have z0b : (v != 0) = true := by simp [bne, z0]
      clear hv
      go_wp2_with (first
        | (refine wpList_load_mid rfl 34 _ rfl w1.heap.size 0 rfl (ecs K (b.wc b1)) _ P.out.range Tryz.underlying34 rfl size34 ?_)
        | (go_at_call 58; (with_reducible refine HVF.out.mono ?_); rintro e wv ⟨rfl, hb⟩; replace R := Lib.hid (R.out.below hb); replace Bl := Lib.hid (Bl.out.trans (hb.mono Bl.out.size)); clear hb)
        | (refine store_mid_as rfl 34 _ _ rfl (w.heap.size + 1) 0 (#[.int .i64 0, .string ⟨#[]⟩, .string ⟨#[]⟩, .int .i64 0, .bool false, .string ⟨#[]⟩, .int .i64 0, .int .i64 0, .slice none 0 0, .slice none 0 0, .string ⟨#[]⟩, .int .i64 0, .int .i64 0, .bool false, .string ⟨#[]⟩, .slice none 0 0, .slice none 0 0, .slice none 0 0, .slice none 0 0, .int .i64 0, .int .i64 0, .int .i64 0, .int .i64 0, .int .i64 0, .int .i64 0, .int .i64 0, .int .i64 0, .string ⟨#[]⟩, .int .i64 0] : Array Value) rfl rfl (Blk.there (n := 29) R.out (Nat.le_refl 29)) size34 (by simp [Value.oneCell']) ?_; intro wz ez; have EZ := Lib.hid ez; clear ez)
        | fail)
      (try simp only [Exit.inBlock, Exit.then])
      refine bodyPost_ret (results_cell_tmp_blk rfl _ _ (w.heap.size + 1) [.int .i64 0, .string ⟨#[]⟩, .string ⟨#[]⟩, .int .i64 0, .bool false, .string ⟨#[]⟩, .int .i64 0, .int .i64 0, .slice none 0 0, .slice none 0 0, .string ⟨#[]⟩, .int .i64 0, .int .i64 0, .bool false, .string ⟨#[]⟩, .slice none 0 0, .slice none 0 0, .slice none 0 0, .slice none 0 0, .int .i64 0, .int .i64 0, .int .i64 0, .int .i64 0, .int .i64 0, .int .i64 0, .int .i64 0, .int .i64 0, .string ⟨#[]⟩, .int .i64 0] 34 _ rfl (by rw [EZ.out]; exact Blk.setAll R.out _ rfl) Tryz.underlying34 rfl size34) rfl ?_
      rw [EZ.out, HY.out]
      exact ⟨aw0, rfl, e0_is _, below_setAll (Nat.le_succ _) _ _ _ Bl.out⟩
  · have HKP := Lib.hid (kpt_t hwb)
    simp only [hwb] at HW
    rw [HKP.out] at HRD HRI
    rw [hwb] at HRI
    have HVK := Lib.hid (fun b y (hi : IsE y E b) (hb : Below w.heap.size w y) => verify58 E b true y hi HSM.out (HL.out.below hb))
    rw [← HRI.out] at HVK
    generalize rcvI E = v at HRD HVK ⊢
    clear hwb
    go_enter Tryz.func29, Tryz.ntmps29
    go_upto_region 2 with (first
      | (refine wpList_load_mid rfl 34 _ rfl w.heap.size 0 rfl [.int .i64 E.id, .string E.rm, .string E.sd, .int .i64 E.kd, .bool E.st, .string E.ky, .int .i64 E.tm, .int .i64 E.dp, .slice a.pA E.pv.length a.pC, .slice a.qA E.au.length a.qC, .string E.c.tx, .int .i64 E.c.n, .int .i64 E.c.tg, .bool E.c.th, .string E.c.via, .slice a.c.aA E.c.al.length a.c.aC, .slice a.c.dA E.c.dn.length a.c.dC, .slice a.c.uA E.c.us.length a.c.uC, .slice a.c.kA E.c.ks.length a.c.kC, .int .i64 E.c.d, .int .i64 E.c.x3, .int .i64 E.c.x4, .int .i64 E.c.x5, .int .i64 E.c.x6, .int .i64 E.c.x7, .int .i64 E.c.x8, .int .i64 E.hs, .string E.sv, .int .i64 E.sm] _ X0.out.range Tryz.underlying34 rfl size34 ?_)
      | (go_at_call 54; (with_reducible refine (HK.out W0 BA.out).mono ?_); rintro e w1 ⟨b, rfl, hi, hb, hn⟩; have I1 := Lib.hid hi; have N1 := Lib.hid (fun g hg => hn g (Nat.lt_of_lt_of_le hg R0.out.lt)); have B1 := Lib.hid (BA.out.trans (hb.mono BA.out.size)); have X1 := Lib.hid (X0.out.below hb); have R1 := Lib.hid (R0.out.below hb); clear hi hn hb HK)
      | (refine store_as34 rfl 34 _ _ rfl [.int .i64 0, .string ⟨#[]⟩, .string ⟨#[]⟩, .int .i64 0, .bool false, .string ⟨#[]⟩, .int .i64 0, .int .i64 0, .slice none 0 0, .slice none 0 0, .string ⟨#[]⟩, .int .i64 0, .int .i64 0, .bool false, .string ⟨#[]⟩, .slice none 0 0, .slice none 0 0, .slice none 0 0, .slice none 0 0, .int .i64 0, .int .i64 0, .int .i64 0, .int .i64 0, .int .i64 0, .int .i64 0, .int .i64 0, .int .i64 0, .string ⟨#[]⟩, .int .i64 0] (ecs E b) rfl rfl rfl size34 (ecs_one _ _) ?_; intro w2 hx hb; have P2 := Lib.hid hx; have I2 := Lib.hid (I1.out.below hb); have B2 := Lib.hid (B1.out.trans (hb.mono B1.out.size)); have X2 := Lib.hid (X1.out.below hb); have R2 := Lib.hid (R1.out.below hb); clear hx hb I1 X1 R1)
      | fail)
    go_upto_region 6 with (first
      | (refine wpList_load_mid rfl 34 _ rfl w.heap.size 0 rfl [.int .i64 E.id, .string E.rm, .string E.sd, .int .i64 E.kd, .bool E.st, .string E.ky, .int .i64 E.tm, .int .i64 E.dp, .slice a.pA E.pv.length a.pC, .slice a.qA E.au.length a.qC, .string E.c.tx, .int .i64 E.c.n, .int .i64 E.c.tg, .bool E.c.th, .string E.c.via, .slice a.c.aA E.c.al.length a.c.aC, .slice a.c.dA E.c.dn.length a.c.dC, .slice a.c.uA E.c.us.length a.c.uC, .slice a.c.kA E.c.ks.length a.c.kC, .int .i64 E.c.d, .int .i64 E.c.x3, .int .i64 E.c.x4, .int .i64 E.c.x5, .int .i64 E.c.x6, .int .i64 E.c.x7, .int .i64 E.c.x8, .int .i64 E.hs, .string E.sv, .int .i64 E.sm] _ X2.out.range Tryz.underlying34 rfl size34 ?_)
      | (go_at_call 21; (with_reducible refine (HW.out w2 B2.out).mono ?_); rintro e w3 ⟨rfl, hb⟩; have P := Lib.hid (P2.out.below hb); have I := Lib.hid (I2.out.below hb); have Bl := Lib.hid (B2.out.trans (hb.mono B2.out.size)); have R := Lib.hid (R2.out.below hb); clear hb HW)
      | fail)
    have HVF := Lib.hid (HVK.out b w3 I.out Bl.out)
    have AR := Lib.hid (N1.out (w.heap.size + 1) (by omega))
    clear HVK
    by_cases hv : v = 0
    · subst hv
      have HY := Lib.hid (show rcvE E = E by rw [HRD.out]; exact if_pos rfl)
      go_wp2_with (first
        | (refine wpList_load_mid rfl 34 _ rfl w1.heap.size 0 rfl (ecs E b) _ P.out.range Tryz.underlying34 rfl size34 ?_)
        | (go_at_call 58; (with_reducible refine HVF.out.mono ?_); rintro e wv ⟨rfl, hb⟩; replace P := Lib.hid (P.out.below hb); replace I := Lib.hid (I.out.below hb); replace R := Lib.hid (R.out.below hb); replace Bl := Lib.hid (Bl.out.trans (hb.mono Bl.out.size)); clear hb)
        | (refine wpList_load_mid rfl 34 _ rfl w1.heap.size 0 rfl (ecs E b) _ P.out.range Tryz.underlying34 rfl size34 ?_)
        | (refine store_mid_as rfl 34 _ _ rfl (w.heap.size + 1) 0 (ecs E b).toArray rfl rfl (Blk.there (n := 29) R.out (Nat.le_refl 29)) size34 (ecs_one _ _) ?_; intro wz ez; have EZ := Lib.hid ez; clear ez)
        | fail)
      (try simp only [Exit.inBlock, Exit.then])
      refine bodyPost_ret (results_cell_tmp_blk rfl _ _ (w.heap.size + 1) (ecs E b) 34 _ rfl (by rw [EZ.out]; exact Blk.setAll R.out _ rfl) Tryz.underlying34 rfl size34) rfl ?_
      rw [EZ.out, HY.out]
      exact ⟨b, rfl, I.out.otherE _ _ _ AR.out, below_setAll (Nat.le_succ _) _ _ _ Bl.out⟩
    · have HY := Lib.hid (show rcvE E = e0 by rw [HRD.out]; exact if_neg hv)
      have z0 : (v == 0) = false := beq_eq_false_iff_ne.2 hv
      have z0b : (v != 0) = true := by simp [bne, z0]
      clear hv
      go_wp2_with (first
        | (refine wpList_load_mid rfl 34 _ rfl w1.heap.size 0 rfl (ecs E b) _ P.out.range Tryz.underlying34 rfl size34 ?_)
        | (go_at_call 58; (with_reducible refine HVF.out.mono ?_); rintro e wv ⟨rfl, hb⟩; replace R := Lib.hid (R.out.below hb); replace Bl := Lib.hid (Bl.out.trans (hb.mono Bl.out.size)); clear hb)
        | (refine store_mid_as rfl 34 _ _ rfl (w.heap.size + 1) 0 (#[.int .i64 0, .string ⟨#[]⟩, .string ⟨#[]⟩, .int .i64 0, .bool false, .string ⟨#[]⟩, .int .i64 0, .int .i64 0, .slice none 0 0, .slice none 0 0, .string ⟨#[]⟩, .int .i64 0, .int .i64 0, .bool false, .string ⟨#[]⟩, .slice none 0 0, .slice none 0 0, .slice none 0 0, .slice none 0 0, .int .i64 0, .int .i64 0, .int .i64 0, .int .i64 0, .int .i64 0, .int .i64 0, .int .i64 0, .int .i64 0, .string ⟨#[]⟩, .int .i64 0] : Array Value) rfl rfl (Blk.there (n := 29) R.out (Nat.le_refl 29)) size34 (by simp [Value.oneCell']) ?_; intro wz ez; have EZ := Lib.hid ez; clear ez)
        | fail)
      (try simp only [Exit.inBlock, Exit.then])
      refine bodyPost_ret (results_cell_tmp_blk rfl _ _ (w.heap.size + 1) [.int .i64 0, .string ⟨#[]⟩, .string ⟨#[]⟩, .int .i64 0, .bool false, .string ⟨#[]⟩, .int .i64 0, .int .i64 0, .slice none 0 0, .slice none 0 0, .string ⟨#[]⟩, .int .i64 0, .int .i64 0, .bool false, .string ⟨#[]⟩, .slice none 0 0, .slice none 0 0, .slice none 0 0, .slice none 0 0, .int .i64 0, .int .i64 0, .int .i64 0, .int .i64 0, .int .i64 0, .int .i64 0, .int .i64 0, .int .i64 0, .string ⟨#[]⟩, .int .i64 0] 34 _ rfl (by rw [EZ.out]; exact Blk.setAll R.out _ rfl) Tryz.underlying34 rfl size34) rfl ?_
      rw [EZ.out, HY.out]
      exact ⟨aw0, rfl, e0_is _, below_setAll (Nat.le_succ _) _ _ _ Bl.out⟩
end Go.Proofs.YtablocpcgknmaaaGreatDoor
