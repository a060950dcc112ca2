/- EventSigns: its walk. No condition. -/
import Derived.Test.YtablocpcgknmaaaGreatDoorQPh
import Derived.Test.YtablocpcgknmaaaGreatDoorQL5
namespace Go.Proofs.YtablocpcgknmaaaGreatDoor
open Go.Lib (hid)
open Go Go.RowKit
set_option linter.unusedVariables false
set_option linter.unusedSimpArgs false
set_option maxRecDepth 100000

theorem chk_str {E : Ew} (h : chk7 E = 0) : chk7 (strE E) = 0 := by
 unfold chk7 at h ⊢
 by_cases hf : frmI E = 0
 ·rw [if_pos hf] at h
  rw [if_pos (show frmI (strE E) = 0 from hf)]
  show rchk E.kd (strip E.kd E.c) = 0
  rw [← pchk_eq] at h ⊢
  exact pchk_strip h
 ·rw [if_neg hf] at h; exact absurd h hf
theorem kpt_str (E : Ew) : kptE (strE E) = strE E := by
 cases h : whoB (strE E)
 ·rw [kpt_f h, str_str]
 ·exact kpt_t h
/-- What Signs wants of an event that is signed well. -/
structure SgG (S : Ew) : Prop where
 rI : rcvI S = 0
 rE : rcvE S = S
 gI : rcvI (strE S) = 0
 gE : rcvE (strE S) = strE S
 vS : verI S (whoB S) = 0
theorem sgG {E : Ew} {s : ByteArray} (hc : chk7 E = 0) (hv : (s.toList == (srvA E.sd).toList) = true) : SgG (sgnE E s) := by
 have hw := sgn_who E s
 have hc2 : chk7 (sgnE E s) = 0 := hc
 have hs : sigB (sgnE E s) = true := by
  unfold sigB
  rw [show ((sgnE E s).sv.toList == (srvA (sgnE E s).sd).toList) = true from hv, show ((sgnE E s).sm == (sgnE E s).id) = true from beq_self_eq_true _]
  rfl
 have hr : rcvI (sgnE E s) = 0 := by
  unfold rcvI
  rw [kpt_t hw, hw]
  exact ver_ok hc2 (sgn_id _ _) hs
 have hg : rcvI (strE (sgnE E s)) = 0 := by
  unfold rcvI
  rw [kpt_str]
  exact ver_str (chk_str hc2) (sgn_id _ _) hs _
 exact ⟨hr, by unfold rcvE; rw [if_pos hr, kpt_t hw], hg, by unfold rcvE; rw [if_pos hg, kpt_str], by rw [hw]; exact ver_ok hc2 (sgn_id _ _) hs⟩
set_option maxHeartbeats 32000000 in
theorem signs_long (E : Ew) (a : Aw) (s : ByteArray) (w : World) (h : IsE w E a) (hss : s.size ≤ 9223372036854775807) (hl : Lt w) (e1z : (100 : Int) < (s.size : Int)) : Calls Tryz.prog 6 #[.agg (ecs E a).toArray, .string s] w fun e w' => e = .returned (.bool true) ∧ Below w.heap.size w w' := by
 have BA := hid ((Below.refl w.heap.size w).alloc (Nat.le_refl _) (.cells #[.int .i64 E.id, .string E.rm, .string E.sd, .int .i64 E.kd, .bool E.st, .string E.ky, .int .i64 E.tm, .int .i64 E.dp, .slice a.pA E.pv.length a.pC, .slice a.qA E.au.length a.qC, .string E.c.tx, .int .i64 E.c.n, .int .i64 E.c.tg, .bool E.c.th, .string E.c.via, .slice a.c.aA E.c.al.length a.c.aC, .slice a.c.dA E.c.dn.length a.c.dC, .slice a.c.uA E.c.us.length a.c.uC, .slice a.c.kA E.c.ks.length a.c.kC, .int .i64 E.c.d, .int .i64 E.c.x3, .int .i64 E.c.x4, .int .i64 E.c.x5, .int .i64 E.c.x6, .int .i64 E.c.x7, .int .i64 E.c.x8, .int .i64 E.hs, .string E.sv, .int .i64 E.sm] 34))
 have XA := hid (blk_new w [.int .i64 E.id, .string E.rm, .string E.sd, .int .i64 E.kd, .bool E.st, .string E.ky, .int .i64 E.tm, .int .i64 E.dp, .slice a.pA E.pv.length a.pC, .slice a.qA E.au.length a.qC, .string E.c.tx, .int .i64 E.c.n, .int .i64 E.c.tg, .bool E.c.th, .string E.c.via, .slice a.c.aA E.c.al.length a.c.aC, .slice a.c.dA E.c.dn.length a.c.dC, .slice a.c.uA E.c.us.length a.c.uC, .slice a.c.kA E.c.ks.length a.c.kC, .int .i64 E.c.d, .int .i64 E.c.x3, .int .i64 E.c.x4, .int .i64 E.c.x5, .int .i64 E.c.x6, .int .i64 E.c.x7, .int .i64 E.c.x8, .int .i64 E.hs, .string E.sv, .int .i64 E.sm] 34)
 have HF := hid (small13 E a _ (h.below BA.out))
 have HH := hid h
 have HL := hid hl
 clear h hl
 dsimp only [ecs] at HF
 show Calls Tryz.prog 6 #[.agg #[.int .i64 E.id, .string E.rm, .string E.sd, .int .i64 E.kd, .bool E.st, .string E.ky, .int .i64 E.tm, .int .i64 E.dp, .slice a.pA E.pv.length a.pC, .slice a.qA E.au.length a.qC, .string E.c.tx, .int .i64 E.c.n, .int .i64 E.c.tg, .bool E.c.th, .string E.c.via, .slice a.c.aA E.c.al.length a.c.aC, .slice a.c.dA E.c.dn.length a.c.dC, .slice a.c.uA E.c.us.length a.c.uC, .slice a.c.kA E.c.ks.length a.c.kC, .int .i64 E.c.d, .int .i64 E.c.x3, .int .i64 E.c.x4, .int .i64 E.c.x5, .int .i64 E.c.x6, .int .i64 E.c.x7, .int .i64 E.c.x8, .int .i64 E.hs, .string E.sv, .int .i64 E.sm], .string s] w _
 go_enter Tryz.func6, Tryz.ntmps6
 go_upto_region 3 with (first
  | (refine load_mid_g (by first | rfl | (simp only [*]; rfl)) 34 _ rfl w.heap.size 0 rfl (ecs E a) _ XA.out.range Tryz.underlying34 rfl size34 ?_)
  | (go_at_call 13; (with_reducible refine HF.out.mono ?_); rintro e w1 ⟨q, rfl, hq, hb⟩; have B1 := hid (BA.out.trans (hb.mono BA.out.size)); have X1 := hid (XA.out.below hb); have Q1 := hid (show Qz q (SmZ E) from hq); clear hq hb; cases q)
  | (go_at_call 14; (with_reducible refine (lives14 w1 (HL.out.below B1.out)).mono ?_); rintro e w2 ⟨rfl, hb⟩; have B2 := hid (B1.out.trans (hb.mono B1.out.size)); clear hb)
  | fail)
 ·go_ret
  exact ⟨rfl, B2.out⟩
 ·go_ret
  exact ⟨rfl, B2.out⟩
set_option maxHeartbeats 32000000 in
theorem signs_bad (E : Ew) (a : Aw) (s : ByteArray) (w : World) (h : IsE w E a) (hss : s.size ≤ 9223372036854775807) (hl : Lt w) (e1z : ¬ (100 : Int) < (s.size : Int)) (hc : ¬ chk7 E = 0) : Calls Tryz.prog 6 #[.agg (ecs E a).toArray, .string s] w fun e w' => e = .returned (.bool true) ∧ Below w.heap.size w w' := by
 have BA := hid ((Below.refl w.heap.size w).alloc (Nat.le_refl _) (.cells #[.int .i64 E.id, .string E.rm, .string E.sd, .int .i64 E.kd, .bool E.st, .string E.ky, .int .i64 E.tm, .int .i64 E.dp, .slice a.pA E.pv.length a.pC, .slice a.qA E.au.length a.qC, .string E.c.tx, .int .i64 E.c.n, .int .i64 E.c.tg, .bool E.c.th, .string E.c.via, .slice a.c.aA E.c.al.length a.c.aC, .slice a.c.dA E.c.dn.length a.c.dC, .slice a.c.uA E.c.us.length a.c.uC, .slice a.c.kA E.c.ks.length a.c.kC, .int .i64 E.c.d, .int .i64 E.c.x3, .int .i64 E.c.x4, .int .i64 E.c.x5, .int .i64 E.c.x6, .int .i64 E.c.x7, .int .i64 E.c.x8, .int .i64 E.hs, .string E.sv, .int .i64 E.sm] 34))
 have XA := hid (blk_new w [.int .i64 E.id, .string E.rm, .string E.sd, .int .i64 E.kd, .bool E.st, .string E.ky, .int .i64 E.tm, .int .i64 E.dp, .slice a.pA E.pv.length a.pC, .slice a.qA E.au.length a.qC, .string E.c.tx, .int .i64 E.c.n, .int .i64 E.c.tg, .bool E.c.th, .string E.c.via, .slice a.c.aA E.c.al.length a.c.aC, .slice a.c.dA E.c.dn.length a.c.dC, .slice a.c.uA E.c.us.length a.c.uC, .slice a.c.kA E.c.ks.length a.c.kC, .int .i64 E.c.d, .int .i64 E.c.x3, .int .i64 E.c.x4, .int .i64 E.c.x5, .int .i64 E.c.x6, .int .i64 E.c.x7, .int .i64 E.c.x8, .int .i64 E.hs, .string E.sv, .int .i64 E.sm] 34)
 have HF := hid (small13 E a _ (h.below BA.out))
 have HH := hid h
 have HL := hid hl
 clear h hl
 dsimp only [ecs] at HF
 have HSG := hid (fun y (hz : SmZ E) (hb : Below w.heap.size w y) => sign26 E a s y (HH.out.below hb) hz (HL.out.below hb) hss)
 have HRG := hid (fun y (hz : SmZ E) (hb : Below w.heap.size w y) => rsign27 E a s y (HH.out.below hb) hz hss)
 have HCK := hid (fun y (hb : Below w.heap.size w y) => check15 E a y (HH.out.below hb) (HL.out.below hb))
 have HSV := hid (fun y => (rserverOf_any E.sd HH.out.sd y).mono (fun e w' h => show e = .returned (.string (srvA E.sd)) ∧ Below y.heap.size y w' from ⟨h.1, by rw [← h.2]; exact Below.refl _ _⟩))
 dsimp only [ecs] at HSG HRG HCK
 unfold ClN at HSG
 unfold StE at HRG
 generalize sgnE E s = S at HSG HRG
 have ce : (chk7 E == 0) = false := by simpa using hc
 generalize chk7 E = c at HCK ce
 clear hc HSV hss
 show Calls Tryz.prog 6 #[.agg #[.int .i64 E.id, .string E.rm, .string E.sd, .int .i64 E.kd, .bool E.st, .string E.ky, .int .i64 E.tm, .int .i64 E.dp, .slice a.pA E.pv.length a.pC, .slice a.qA E.au.length a.qC, .string E.c.tx, .int .i64 E.c.n, .int .i64 E.c.tg, .bool E.c.th, .string E.c.via, .slice a.c.aA E.c.al.length a.c.aC, .slice a.c.dA E.c.dn.length a.c.dC, .slice a.c.uA E.c.us.length a.c.uC, .slice a.c.kA E.c.ks.length a.c.kC, .int .i64 E.c.d, .int .i64 E.c.x3, .int .i64 E.c.x4, .int .i64 E.c.x5, .int .i64 E.c.x6, .int .i64 E.c.x7, .int .i64 E.c.x8, .int .i64 E.hs, .string E.sv, .int .i64 E.sm], .string s] w _
 go_enter Tryz.func6, Tryz.ntmps6
 go_upto_region 3 with (first
  | (refine load_mid_g (by first | rfl | (simp only [*]; rfl)) 34 _ rfl w.heap.size 0 rfl (ecs E a) _ XA.out.range Tryz.underlying34 rfl size34 ?_)
  | (go_at_call 13; (with_reducible refine HF.out.mono ?_); rintro e w1 ⟨q, rfl, hq, hb⟩; have B1 := hid (BA.out.trans (hb.mono BA.out.size)); have X1 := hid (XA.out.below hb); have Q1 := hid (show Qz q (SmZ E) from hq); clear hq hb; cases q)
  | (go_at_call 14; (with_reducible refine (lives14 w1 (HL.out.below B1.out)).mono ?_); rintro e w2 ⟨rfl, hb⟩; have B2 := hid (B1.out.trans (hb.mono B1.out.size)); clear hb)
  | fail)
 ·go_ret
  exact ⟨rfl, B2.out⟩
 ·have HZ := hid Q1.out.yes
  clear XA BA Q1
  go_upto_region 4 with (first
   | (refine load_mid_g (by first | rfl | (simp only [*]; rfl)) 34 _ rfl w.heap.size 0 rfl (ecs E a) _ X1.out.range Tryz.underlying34 rfl size34 ?_)
   | (go_at_call 26; (with_reducible refine (HSG.out w1 HZ.out B1.out).mono ?_); rintro e w2 ⟨b2, rfl, hi, hb, hn⟩; have S2 := hid hi; have B2 := hid (B1.out.trans (hb.mono B1.out.size)); have X2 := hid (X1.out.below hb); clear hi hb hn)
   | (refine store_as34 rfl 34 _ _ rfl z29 (ecs S b2) rfl rfl rfl size34 (ecs_one _ _) ?_; intro w3 hx hb; have P3 := hid hx; have S3 := hid (S2.out.below hb); have B3 := hid (B2.out.trans (hb.mono B2.out.size)); have X3 := hid (X2.out.below hb); clear hx hb)
   | fail)
  clear X1 X2 S2 B1 B2
  refine wp_region_held_drew (S := (fun y => Below w3.heap.size w3 y)) (by kernel_rfl) ((Below.refl w3.heap.size w3).drew) (fun hH0 => ?_)
  generalize hy0 : World.drew _ = y0 at hH0 ⊢
  have RB0 : Hid (Below w3.heap.size w3 y0) := hid hH0
  clear hy0
  refine mvY 0 (v := .agg (ecs S b2).toArray) rfl (yieldsIf_load_mid (by first | rfl | (simp only [*]; rfl)) 34 _ rfl w2.heap.size 0 rfl (ecs S b2) _ (fun w0 hw0 => (P3.out.below hw0).range) Tryz.underlying34 rfl size34) ?_
  try simp only [Act.put, lsA, ls0, ls1]
  refine mvY 1 (v := .agg (ecs E a).toArray) rfl (yieldsIf_load_mid (by first | rfl | (simp only [*]; rfl)) 34 _ rfl w.heap.size 0 rfl (ecs E a) _ (fun w0 hw0 => (X3.out.below hw0).range) Tryz.underlying34 rfl size34) ?_
  try simp only [Act.put, lsA, ls0, ls1]
  refine mvA 2 (v := ?hv17) rfl ?hy17 ?hr17
  case hy17 => (intro w hSw; (try dsimp only at hSw); go_simp; (try with_reducible rfl))
  try simp only [Act.put, lsA, ls0, ls1]
  refine mvR 3 rfl (fun KK hKK => ?_)
  go_simp
  (with_reducible refine (HRG.out _ HZ.out (B3.out.trans (RB0.out.mono B3.out.size))).mono ?_)
  rintro e0 y1 ⟨b6, rfl, hi, hb, hn⟩
  have RB1 := hid (RB0.out.trans (hb.mono RB0.out.size))
  have I1 := hid hi
  clear hi hn
  clear hb
  refine hKK.out _ _ (RB1.out) (fun hH1 => ?_)
  clear hKK KK
  try simp only [Act.put, lsA, ls0, ls1]
  refine mvR 4 rfl (fun KK hKK => ?_)
  go_simp
  (with_reducible refine (rsame24t S b2 b6 _ (S3.out.below RB1.out) I1.out).mono ?_)
  rintro e0 y2 ⟨rfl, hb⟩
  have RB2 := hid (RB1.out.trans (hb.mono RB1.out.size))
  clear I1
  clear hb
  refine hKK.out _ _ (RB2.out) (fun hH2 => ?_)
  clear hKK KK
  try simp only [Act.put, lsA, ls0, ls1]
  refine mvA 5 (v := ?hv18) rfl ?hy18 ?hr18
  case hy18 => (intro w hSw; (try dsimp only at hSw); go_simp; (try with_reducible rfl))
  try simp only [Act.put, lsA, ls0, ls1]
  refine wpAnyH_done (by kernel_rfl) ?_ _
  have B4 := hid (B3.out.trans (RB2.out.mono B3.out.size))
  have X4 := hid (X3.out.below RB2.out)
  have P4 := hid (P3.out.below RB2.out)
  have S4 := hid (S3.out.below RB2.out)
  clear RB0 RB1 RB2 X3 P3 S3 B3 HRG HSG HF
  generalize y2 = w4 at B4 X4 P4 S4 ⊢
  go_wp2_with (first
   | (refine load_mid_g (by first | rfl | (simp only [*]; rfl)) 34 _ rfl w.heap.size 0 rfl (ecs E a) _ X4.out.range Tryz.underlying34 rfl size34 ?_)
   | (go_at_call 15; (with_reducible refine (HCK.out w4 B4.out).mono ?_); rintro e w5 ⟨rfl, hb⟩; have B5 := hid (B4.out.trans (hb.mono B4.out.size)); have X5 := hid (X4.out.below hb); have P5 := hid (P4.out.below hb); have S5 := hid (S4.out.below hb); have x2 := X5.out.cell (i := 2) rfl; clear hb X4 P4 S4)
   | (go_at_call 14; (with_reducible refine (lives14 w5 (HL.out.below B5.out)).mono ?_); rintro e w9 ⟨rfl, hb⟩; have B9 := hid (B5.out.trans (hb.mono B5.out.size)); clear hb)
   | fail)
  go_ret
  exact ⟨rfl, B9.out⟩
set_option maxHeartbeats 32000000 in
theorem signs_other (E : Ew) (a : Aw) (s : ByteArray) (w : World) (h : IsE w E a) (hss : s.size ≤ 9223372036854775807) (hl : Lt w) (e1z : ¬ (100 : Int) < (s.size : Int)) (hc : chk7 E = 0) (te : (s.toList == (srvA E.sd).toList) = false) : Calls Tryz.prog 6 #[.agg (ecs E a).toArray, .string s] w fun e w' => e = .returned (.bool true) ∧ Below w.heap.size w w' := by
 have BA := hid ((Below.refl w.heap.size w).alloc (Nat.le_refl _) (.cells #[.int .i64 E.id, .string E.rm, .string E.sd, .int .i64 E.kd, .bool E.st, .string E.ky, .int .i64 E.tm, .int .i64 E.dp, .slice a.pA E.pv.length a.pC, .slice a.qA E.au.length a.qC, .string E.c.tx, .int .i64 E.c.n, .int .i64 E.c.tg, .bool E.c.th, .string E.c.via, .slice a.c.aA E.c.al.length a.c.aC, .slice a.c.dA E.c.dn.length a.c.dC, .slice a.c.uA E.c.us.length a.c.uC, .slice a.c.kA E.c.ks.length a.c.kC, .int .i64 E.c.d, .int .i64 E.c.x3, .int .i64 E.c.x4, .int .i64 E.c.x5, .int .i64 E.c.x6, .int .i64 E.c.x7, .int .i64 E.c.x8, .int .i64 E.hs, .string E.sv, .int .i64 E.sm] 34))
 have XA := hid (blk_new w [.int .i64 E.id, .string E.rm, .string E.sd, .int .i64 E.kd, .bool E.st, .string E.ky, .int .i64 E.tm, .int .i64 E.dp, .slice a.pA E.pv.length a.pC, .slice a.qA E.au.length a.qC, .string E.c.tx, .int .i64 E.c.n, .int .i64 E.c.tg, .bool E.c.th, .string E.c.via, .slice a.c.aA E.c.al.length a.c.aC, .slice a.c.dA E.c.dn.length a.c.dC, .slice a.c.uA E.c.us.length a.c.uC, .slice a.c.kA E.c.ks.length a.c.kC, .int .i64 E.c.d, .int .i64 E.c.x3, .int .i64 E.c.x4, .int .i64 E.c.x5, .int .i64 E.c.x6, .int .i64 E.c.x7, .int .i64 E.c.x8, .int .i64 E.hs, .string E.sv, .int .i64 E.sm] 34)
 have HF := hid (small13 E a _ (h.below BA.out))
 have HH := hid h
 have HL := hid hl
 clear h hl
 dsimp only [ecs] at HF
 have HSG := hid (fun y (hz : SmZ E) (hb : Below w.heap.size w y) => sign26 E a s y (HH.out.below hb) hz (HL.out.below hb) hss)
 have HRG := hid (fun y (hz : SmZ E) (hb : Below w.heap.size w y) => rsign27 E a s y (HH.out.below hb) hz hss)
 have HCK := hid (fun y (hb : Below w.heap.size w y) => check15 E a y (HH.out.below hb) (HL.out.below hb))
 have HSV := hid (fun y => (rserverOf_any E.sd HH.out.sd y).mono (fun e w' h => show e = .returned (.string (srvA E.sd)) ∧ Below y.heap.size y w' from ⟨h.1, by rw [← h.2]; exact Below.refl _ _⟩))
 dsimp only [ecs] at HSG HRG HCK
 unfold ClN at HSG
 unfold StE at HRG
 generalize sgnE E s = S at HSG HRG
 rw [hc] at HCK
 generalize srvA E.sd = sv at HSV te
 clear hc hss
 show Calls Tryz.prog 6 #[.agg #[.int .i64 E.id, .string E.rm, .string E.sd, .int .i64 E.kd, .bool E.st, .string E.ky, .int .i64 E.tm, .int .i64 E.dp, .slice a.pA E.pv.length a.pC, .slice a.qA E.au.length a.qC, .string E.c.tx, .int .i64 E.c.n, .int .i64 E.c.tg, .bool E.c.th, .string E.c.via, .slice a.c.aA E.c.al.length a.c.aC, .slice a.c.dA E.c.dn.length a.c.dC, .slice a.c.uA E.c.us.length a.c.uC, .slice a.c.kA E.c.ks.length a.c.kC, .int .i64 E.c.d, .int .i64 E.c.x3, .int .i64 E.c.x4, .int .i64 E.c.x5, .int .i64 E.c.x6, .int .i64 E.c.x7, .int .i64 E.c.x8, .int .i64 E.hs, .string E.sv, .int .i64 E.sm], .string s] w _
 go_enter Tryz.func6, Tryz.ntmps6
 go_upto_region 3 with (first
  | (refine load_mid_g (by first | rfl | (simp only [*]; rfl)) 34 _ rfl w.heap.size 0 rfl (ecs E a) _ XA.out.range Tryz.underlying34 rfl size34 ?_)
  | (go_at_call 13; (with_reducible refine HF.out.mono ?_); rintro e w1 ⟨q, rfl, hq, hb⟩; have B1 := hid (BA.out.trans (hb.mono BA.out.size)); have X1 := hid (XA.out.below hb); have Q1 := hid (show Qz q (SmZ E) from hq); clear hq hb; cases q)
  | (go_at_call 14; (with_reducible refine (lives14 w1 (HL.out.below B1.out)).mono ?_); rintro e w2 ⟨rfl, hb⟩; have B2 := hid (B1.out.trans (hb.mono B1.out.size)); clear hb)
  | fail)
 ·go_ret
  exact ⟨rfl, B2.out⟩
 ·have HZ := hid Q1.out.yes
  clear XA BA Q1
  go_upto_region 4 with (first
   | (refine load_mid_g (by first | rfl | (simp only [*]; rfl)) 34 _ rfl w.heap.size 0 rfl (ecs E a) _ X1.out.range Tryz.underlying34 rfl size34 ?_)
   | (go_at_call 26; (with_reducible refine (HSG.out w1 HZ.out B1.out).mono ?_); rintro e w2 ⟨b2, rfl, hi, hb, hn⟩; have S2 := hid hi; have B2 := hid (B1.out.trans (hb.mono B1.out.size)); have X2 := hid (X1.out.below hb); clear hi hb hn)
   | (refine store_as34 rfl 34 _ _ rfl z29 (ecs S b2) rfl rfl rfl size34 (ecs_one _ _) ?_; intro w3 hx hb; have P3 := hid hx; have S3 := hid (S2.out.below hb); have B3 := hid (B2.out.trans (hb.mono B2.out.size)); have X3 := hid (X2.out.below hb); clear hx hb)
   | fail)
  clear X1 X2 S2 B1 B2
  refine wp_region_held_drew (S := (fun y => Below w3.heap.size w3 y)) (by kernel_rfl) ((Below.refl w3.heap.size w3).drew) (fun hH0 => ?_)
  generalize hy0 : World.drew _ = y0 at hH0 ⊢
  have RB0 : Hid (Below w3.heap.size w3 y0) := hid hH0
  clear hy0
  refine mvY 0 (v := .agg (ecs S b2).toArray) rfl (yieldsIf_load_mid (by first | rfl | (simp only [*]; rfl)) 34 _ rfl w2.heap.size 0 rfl (ecs S b2) _ (fun w0 hw0 => (P3.out.below hw0).range) Tryz.underlying34 rfl size34) ?_
  try simp only [Act.put, lsA, ls0, ls1]
  refine mvY 1 (v := .agg (ecs E a).toArray) rfl (yieldsIf_load_mid (by first | rfl | (simp only [*]; rfl)) 34 _ rfl w.heap.size 0 rfl (ecs E a) _ (fun w0 hw0 => (X3.out.below hw0).range) Tryz.underlying34 rfl size34) ?_
  try simp only [Act.put, lsA, ls0, ls1]
  refine mvA 2 (v := ?hv19) rfl ?hy19 ?hr19
  case hy19 => (intro w hSw; (try dsimp only at hSw); go_simp; (try with_reducible rfl))
  try simp only [Act.put, lsA, ls0, ls1]
  refine mvR 3 rfl (fun KK hKK => ?_)
  go_simp
  (with_reducible refine (HRG.out _ HZ.out (B3.out.trans (RB0.out.mono B3.out.size))).mono ?_)
  rintro e0 y1 ⟨b6, rfl, hi, hb, hn⟩
  have RB1 := hid (RB0.out.trans (hb.mono RB0.out.size))
  have I1 := hid hi
  clear hi hn
  clear hb
  refine hKK.out _ _ (RB1.out) (fun hH1 => ?_)
  clear hKK KK
  try simp only [Act.put, lsA, ls0, ls1]
  refine mvR 4 rfl (fun KK hKK => ?_)
  go_simp
  (with_reducible refine (rsame24t S b2 b6 _ (S3.out.below RB1.out) I1.out).mono ?_)
  rintro e0 y2 ⟨rfl, hb⟩
  have RB2 := hid (RB1.out.trans (hb.mono RB1.out.size))
  clear I1
  clear hb
  refine hKK.out _ _ (RB2.out) (fun hH2 => ?_)
  clear hKK KK
  try simp only [Act.put, lsA, ls0, ls1]
  refine mvA 5 (v := ?hv20) rfl ?hy20 ?hr20
  case hy20 => (intro w hSw; (try dsimp only at hSw); go_simp; (try with_reducible rfl))
  try simp only [Act.put, lsA, ls0, ls1]
  refine wpAnyH_done (by kernel_rfl) ?_ _
  have B4 := hid (B3.out.trans (RB2.out.mono B3.out.size))
  have X4 := hid (X3.out.below RB2.out)
  have P4 := hid (P3.out.below RB2.out)
  have S4 := hid (S3.out.below RB2.out)
  clear RB0 RB1 RB2 X3 P3 S3 B3 HRG HSG HF
  generalize y2 = w4 at B4 X4 P4 S4 ⊢
  go_wp2_with (first
   | (refine load_mid_g (by first | rfl | (simp only [*]; rfl)) 34 _ rfl w.heap.size 0 rfl (ecs E a) _ X4.out.range Tryz.underlying34 rfl size34 ?_)
   | (go_at_call 15; (with_reducible refine (HCK.out w4 B4.out).mono ?_); rintro e w5 ⟨rfl, hb⟩; have B5 := hid (B4.out.trans (hb.mono B4.out.size)); have X5 := hid (X4.out.below hb); have P5 := hid (P4.out.below hb); have S5 := hid (S4.out.below hb); have x2 := X5.out.cell (i := 2) rfl; clear hb X4 P4 S4)
   | (go_at_call 28; (with_reducible refine (HSV.out w5).mono ?_); rintro e w6 ⟨rfl, hb⟩; have B6 := hid (B5.out.trans (hb.mono B5.out.size)); have X6 := hid (X5.out.below hb); have P6 := hid (P5.out.below hb); have S6 := hid (S5.out.below hb); clear hb X5 P5 S5 x2)
   | (go_at_call 14; (with_reducible refine (lives14 w6 (HL.out.below B6.out)).mono ?_); rintro e w9 ⟨rfl, hb⟩; have B9 := hid (B6.out.trans (hb.mono B6.out.size)); clear hb)
   | fail)
  go_ret
  exact ⟨rfl, B9.out⟩
set_option maxHeartbeats 64000000 in
theorem signs_well (E : Ew) (a : Aw) (s : ByteArray) (w : World) (h : IsE w E a) (hss : s.size ≤ 9223372036854775807) (hl : Lt w) (e1z : ¬ (100 : Int) < (s.size : Int)) (hc : chk7 E = 0) (te : (s.toList == (srvA E.sd).toList) = true) : Calls Tryz.prog 6 #[.agg (ecs E a).toArray, .string s] w fun e w' => e = .returned (.bool true) ∧ Below w.heap.size w w' := by
 have BA := hid ((Below.refl w.heap.size w).alloc (Nat.le_refl _) (.cells #[.int .i64 E.id, .string E.rm, .string E.sd, .int .i64 E.kd, .bool E.st, .string E.ky, .int .i64 E.tm, .int .i64 E.dp, .slice a.pA E.pv.length a.pC, .slice a.qA E.au.length a.qC, .string E.c.tx, .int .i64 E.c.n, .int .i64 E.c.tg, .bool E.c.th, .string E.c.via, .slice a.c.aA E.c.al.length a.c.aC, .slice a.c.dA E.c.dn.length a.c.dC, .slice a.c.uA E.c.us.length a.c.uC, .slice a.c.kA E.c.ks.length a.c.kC, .int .i64 E.c.d, .int .i64 E.c.x3, .int .i64 E.c.x4, .int .i64 E.c.x5, .int .i64 E.c.x6, .int .i64 E.c.x7, .int .i64 E.c.x8, .int .i64 E.hs, .string E.sv, .int .i64 E.sm] 34))
 have XA := hid (blk_new w [.int .i64 E.id, .string E.rm, .string E.sd, .int .i64 E.kd, .bool E.st, .string E.ky, .int .i64 E.tm, .int .i64 E.dp, .slice a.pA E.pv.length a.pC, .slice a.qA E.au.length a.qC, .string E.c.tx, .int .i64 E.c.n, .int .i64 E.c.tg, .bool E.c.th, .string E.c.via, .slice a.c.aA E.c.al.length a.c.aC, .slice a.c.dA E.c.dn.length a.c.dC, .slice a.c.uA E.c.us.length a.c.uC, .slice a.c.kA E.c.ks.length a.c.kC, .int .i64 E.c.d, .int .i64 E.c.x3, .int .i64 E.c.x4, .int .i64 E.c.x5, .int .i64 E.c.x6, .int .i64 E.c.x7, .int .i64 E.c.x8, .int .i64 E.hs, .string E.sv, .int .i64 E.sm] 34)
 have HF := hid (small13 E a _ (h.below BA.out))
 have HH := hid h
 have HL := hid hl
 clear h hl
 dsimp only [ecs] at HF
 have HSG := hid (fun y (hz : SmZ E) (hb : Below w.heap.size w y) => sign26 E a s y (HH.out.below hb) hz (HL.out.below hb) hss)
 have HRG := hid (fun y (hz : SmZ E) (hb : Below w.heap.size w y) => rsign27 E a s y (HH.out.below hb) hz hss)
 have HCK := hid (fun y (hb : Below w.heap.size w y) => check15 E a y (HH.out.below hb) (HL.out.below hb))
 have HSV := hid (fun y => (rserverOf_any E.sd HH.out.sd y).mono (fun e w' h => show e = .returned (.string (srvA E.sd)) ∧ Below y.heap.size y w' from ⟨h.1, by rw [← h.2]; exact Below.refl _ _⟩))
 dsimp only [ecs] at HSG HRG HCK
 unfold ClN at HSG
 unfold StE at HRG
 have SG := hid (sgG hc te)
 have HZS := hid (fun (hz : SmZ E) => sgn_smz (s := s) hz (by omega))
 rw [hc] at HCK
 generalize srvA E.sd = sv at HSV te
 generalize sgnE E s = S at HSG HRG SG HZS
 have HRS := hid (fun b y (hz : SmZ E) (hi : IsE y S b) (hb : Below w.heap.size w y) => receive29 S b y hi (HZS.out hz) (HL.out.below hb))
 rw [SG.out.rI, SG.out.rE] at HRS
 have HST := hid (fun b y (hz : SmZ E) (hi : IsE y S b) (hb : Below w.heap.size w y) => strip23 S b y hi (HZS.out hz).v (HL.out.below hb))
 have HRT := hid (fun b y (hz : SmZ E) (hi : IsE y (strE S) b) (hb : Below w.heap.size w y) => receive29 (strE S) b y hi (str_smz (HZS.out hz)) (HL.out.below hb))
 rw [SG.out.gI, SG.out.gE] at HRT
 have HVS := hid (fun b y (hz : SmZ E) (hi : IsE y S b) (hb : Below w.heap.size w y) => verify30 S b y hi (HZS.out hz) (HL.out.below hb))
 rw [SG.out.vS] at HVS
 unfold ClN at HST
 unfold RcP at HRS HRT
 generalize strE S = G at HST HRT
 clear hc hss SG HZS
 show Calls Tryz.prog 6 #[.agg #[.int .i64 E.id, .string E.rm, .string E.sd, .int .i64 E.kd, .bool E.st, .string E.ky, .int .i64 E.tm, .int .i64 E.dp, .slice a.pA E.pv.length a.pC, .slice a.qA E.au.length a.qC, .string E.c.tx, .int .i64 E.c.n, .int .i64 E.c.tg, .bool E.c.th, .string E.c.via, .slice a.c.aA E.c.al.length a.c.aC, .slice a.c.dA E.c.dn.length a.c.dC, .slice a.c.uA E.c.us.length a.c.uC, .slice a.c.kA E.c.ks.length a.c.kC, .int .i64 E.c.d, .int .i64 E.c.x3, .int .i64 E.c.x4, .int .i64 E.c.x5, .int .i64 E.c.x6, .int .i64 E.c.x7, .int .i64 E.c.x8, .int .i64 E.hs, .string E.sv, .int .i64 E.sm], .string s] w _
 go_enter Tryz.func6, Tryz.ntmps6
 go_upto_region 3 with (first
  | (refine load_mid_g (by first | rfl | (simp only [*]; rfl)) 34 _ rfl w.heap.size 0 rfl (ecs E a) _ XA.out.range Tryz.underlying34 rfl size34 ?_)
  | (go_at_call 13; (with_reducible refine HF.out.mono ?_); rintro e w1 ⟨q, rfl, hq, hb⟩; have B1 := hid (BA.out.trans (hb.mono BA.out.size)); have X1 := hid (XA.out.below hb); have Q1 := hid (show Qz q (SmZ E) from hq); clear hq hb; cases q)
  | (go_at_call 14; (with_reducible refine (lives14 w1 (HL.out.below B1.out)).mono ?_); rintro e w2 ⟨rfl, hb⟩; have B2 := hid (B1.out.trans (hb.mono B1.out.size)); clear hb)
  | fail)
 ·go_ret
  exact ⟨rfl, B2.out⟩
 ·have HZ := hid Q1.out.yes
  clear XA BA Q1
  go_upto_region 4 with (first
   | (refine load_mid_g (by first | rfl | (simp only [*]; rfl)) 34 _ rfl w.heap.size 0 rfl (ecs E a) _ X1.out.range Tryz.underlying34 rfl size34 ?_)
   | (go_at_call 26; (with_reducible refine (HSG.out w1 HZ.out B1.out).mono ?_); rintro e w2 ⟨b2, rfl, hi, hb, hn⟩; have S2 := hid hi; have B2 := hid (B1.out.trans (hb.mono B1.out.size)); have X2 := hid (X1.out.below hb); clear hi hb hn)
   | (refine store_as34 rfl 34 _ _ rfl z29 (ecs S b2) rfl rfl rfl size34 (ecs_one _ _) ?_; intro w3 hx hb; have P3 := hid hx; have S3 := hid (S2.out.below hb); have B3 := hid (B2.out.trans (hb.mono B2.out.size)); have X3 := hid (X2.out.below hb); clear hx hb)
   | fail)
  clear X1 X2 S2 B1 B2
  refine wp_region_held_drew (S := (fun y => Below w3.heap.size w3 y)) (by kernel_rfl) ((Below.refl w3.heap.size w3).drew) (fun hH0 => ?_)
  generalize hy0 : World.drew _ = y0 at hH0 ⊢
  have RB0 : Hid (Below w3.heap.size w3 y0) := hid hH0
  clear hy0
  refine mvY 0 (v := .agg (ecs S b2).toArray) rfl (yieldsIf_load_mid (by first | rfl | (simp only [*]; rfl)) 34 _ rfl w2.heap.size 0 rfl (ecs S b2) _ (fun w0 hw0 => (P3.out.below hw0).range) Tryz.underlying34 rfl size34) ?_
  try simp only [Act.put, lsA, ls0, ls1]
  refine mvY 1 (v := .agg (ecs E a).toArray) rfl (yieldsIf_load_mid (by first | rfl | (simp only [*]; rfl)) 34 _ rfl w.heap.size 0 rfl (ecs E a) _ (fun w0 hw0 => (X3.out.below hw0).range) Tryz.underlying34 rfl size34) ?_
  try simp only [Act.put, lsA, ls0, ls1]
  refine mvA 2 (v := ?hv21) rfl ?hy21 ?hr21
  case hy21 => (intro w hSw; (try dsimp only at hSw); go_simp; (try with_reducible rfl))
  try simp only [Act.put, lsA, ls0, ls1]
  refine mvR 3 rfl (fun KK hKK => ?_)
  go_simp
  (with_reducible refine (HRG.out _ HZ.out (B3.out.trans (RB0.out.mono B3.out.size))).mono ?_)
  rintro e0 y1 ⟨b6, rfl, hi, hb, hn⟩
  have RB1 := hid (RB0.out.trans (hb.mono RB0.out.size))
  have I1 := hid hi
  clear hi hn
  clear hb
  refine hKK.out _ _ (RB1.out) (fun hH1 => ?_)
  clear hKK KK
  try simp only [Act.put, lsA, ls0, ls1]
  refine mvR 4 rfl (fun KK hKK => ?_)
  go_simp
  (with_reducible refine (rsame24t S b2 b6 _ (S3.out.below RB1.out) I1.out).mono ?_)
  rintro e0 y2 ⟨rfl, hb⟩
  have RB2 := hid (RB1.out.trans (hb.mono RB1.out.size))
  clear I1
  clear hb
  refine hKK.out _ _ (RB2.out) (fun hH2 => ?_)
  clear hKK KK
  try simp only [Act.put, lsA, ls0, ls1]
  refine mvA 5 (v := ?hv22) rfl ?hy22 ?hr22
  case hy22 => (intro w hSw; (try dsimp only at hSw); go_simp; (try with_reducible rfl))
  try simp only [Act.put, lsA, ls0, ls1]
  refine wpAnyH_done (by kernel_rfl) ?_ _
  have B4 := hid (B3.out.trans (RB2.out.mono B3.out.size))
  have X4 := hid (X3.out.below RB2.out)
  have P4 := hid (P3.out.below RB2.out)
  have S4 := hid (S3.out.below RB2.out)
  clear RB0 RB1 RB2 X3 P3 S3 B3 HRG HSG HF
  generalize y2 = w4 at B4 X4 P4 S4 ⊢
  go_upto_region 7 with (first
   | (refine load_mid_g (by first | rfl | (simp only [*]; rfl)) 34 _ rfl w.heap.size 0 rfl (ecs E a) _ X4.out.range Tryz.underlying34 rfl size34 ?_)
   | (go_at_call 15; (with_reducible refine (HCK.out w4 B4.out).mono ?_); rintro e w5 ⟨rfl, hb⟩; have B5 := hid (B4.out.trans (hb.mono B4.out.size)); have X5 := hid (X4.out.below hb); have P5 := hid (P4.out.below hb); have S5 := hid (S4.out.below hb); have x2 := X5.out.cell (i := 2) rfl; clear hb X4 P4 S4)
   | (go_at_call 28; (with_reducible refine (HSV.out w5).mono ?_); rintro e w6 ⟨rfl, hb⟩; have B6 := hid (B5.out.trans (hb.mono B5.out.size)); have X6 := hid (X5.out.below hb); have P6 := hid (P5.out.below hb); have S6 := hid (S5.out.below hb); clear hb X5 P5 S5 x2)
   | fail)
  go_upto_region 8 with (first
   | (refine load_mid_g (by first | rfl | (simp only [*]; rfl)) 34 _ rfl w2.heap.size 0 rfl (ecs S b2) _ P6.out.range Tryz.underlying34 rfl size34 ?_)
   | (go_at_call 29; (with_reducible refine (HRS.out b2 w6 HZ.out S6.out B6.out).mono ?_); rintro e w7 ⟨b7, rfl, hi, hb⟩; have K7 := hid hi; have B7 := hid (B6.out.trans (hb.mono B6.out.size)); have P7 := hid (P6.out.below hb); have S7 := hid (S6.out.below hb); clear hi hb P6 S6)
   | (refine store_as34 rfl 34 _ _ rfl z29 (ecs S b7) rfl rfl rfl size34 (ecs_one _ _) ?_; intro w8 hx hb; have Q8 := hid hx; have B8 := hid (B7.out.trans (hb.mono B7.out.size)); have P8 := hid (P7.out.below hb); have S8 := hid (S7.out.below hb); have K8 := hid (K7.out.below hb); clear hx hb P7 S7 K7)
   | fail)
  go_upto_region 9 with (first
   | (refine load_mid_g (by first | rfl | (simp only [*]; rfl)) 34 _ rfl w2.heap.size 0 rfl (ecs S b2) _ P8.out.range Tryz.underlying34 rfl size34 ?_)
   | (go_at_call 23; (with_reducible refine (HST.out b2 w8 HZ.out S8.out B8.out).mono ?_); rintro e w9 ⟨b9, rfl, hi, hb, hn⟩; have G9 := hid hi; have B9 := hid (B8.out.trans (hb.mono B8.out.size)); have P9 := hid (P8.out.below hb); have S9 := hid (S8.out.below hb); have Q9 := hid (Q8.out.below hb); have K9 := hid (K8.out.below hb); clear hi hb hn P8 S8 Q8 K8)
   | (go_at_call 29; (with_reducible refine (HRT.out b9 w9 HZ.out G9.out B9.out).mono ?_); rintro e w10 ⟨b10, rfl, hi, hb⟩; have J10 := hid hi; have B10 := hid (B9.out.trans (hb.mono B9.out.size)); have P10 := hid (P9.out.below hb); have S10 := hid (S9.out.below hb); have Q10 := hid (Q9.out.below hb); have K10 := hid (K9.out.below hb); clear hi hb P9 S9 Q9 K9 G9)
   | (refine store_as34 rfl 34 _ _ rfl z29 (ecs G b10) rfl rfl rfl size34 (ecs_one _ _) ?_; intro w11 hx hb; have R11 := hid hx; have B11 := hid (B10.out.trans (hb.mono B10.out.size)); have P11 := hid (P10.out.below hb); have S11 := hid (S10.out.below hb); have Q11 := hid (Q10.out.below hb); have K11 := hid (K10.out.below hb); have J11 := hid (J10.out.below hb); clear hx hb P10 S10 Q10 K10 J10)
   | fail)
  have HT := hid (HL.out.below B11.out)
  refine wp_region_held_drew (S := (fun y => Below w11.heap.size w11 y)) (by kernel_rfl) ((Below.refl w11.heap.size w11).drew) (fun hH0 => ?_)
  generalize hy0 : World.drew _ = y0 at hH0 ⊢
  have RB0 : Hid (Below w11.heap.size w11 y0) := hid hH0
  clear hy0
  refine mvY 0 (v := .agg (ecs S b2).toArray) rfl (yieldsIf_load_mid (by first | rfl | (simp only [*]; rfl)) 34 _ rfl w2.heap.size 0 rfl (ecs S b2) _ (fun w0 hw0 => (P11.out.below hw0).range) Tryz.underlying34 rfl size34) ?_
  try simp only [Act.put, lsA, ls0, ls1]
  refine mvR 1 rfl (fun KK hKK => ?_)
  go_simp
  (with_reducible refine (HVS.out b2 _ HZ.out (S11.out.below RB0.out) (B11.out.trans (RB0.out.mono B11.out.size))).mono ?_)
  rintro e0 y1 ⟨rfl, hb⟩
  have RB1 := hid (RB0.out.trans (hb.mono RB0.out.size))
  clear hb
  refine hKK.out _ _ (RB1.out) (fun hH1 => ?_)
  clear hKK KK
  try simp only [Act.put, lsA, ls0, ls1]
  refine mvA 2 (v := ?hv1) rfl ?hy1 ?hr1
  case hy1 => (intro w hSw; (try dsimp only at hSw); go_simp; (try with_reducible rfl))
  try simp only [Act.put, lsA, ls0, ls1]
  refine mvA 3 (v := ?hv2) rfl ?hy2 ?hr2
  case hy2 => (intro w hSw; (try dsimp only at hSw); go_simp; (try with_reducible rfl))
  try simp only [Act.put, lsA, ls0, ls1]
  refine mvA 4 (v := ?hv3) rfl ?hy3 ?hr3
  case hy3 => (intro w hSw; (try dsimp only at hSw); go_simp; (try with_reducible rfl))
  try simp only [Act.put, lsA, ls0, ls1]
  refine mvA 5 (v := ?hv4) rfl ?hy4 ?hr4
  case hy4 => (intro w hSw; (try dsimp only at hSw); go_simp; (try with_reducible rfl))
  try simp only [Act.put, lsA, ls0, ls1]
  refine mvA 6 (v := ?hv5) rfl ?hy5 ?hr5
  case hy5 => (intro w hSw; (try dsimp only at hSw); go_simp; (try with_reducible rfl))
  try simp only [Act.put, lsA, ls0, ls1]
  refine mvA 7 (v := ?hv6) rfl ?hy6 ?hr6
  case hy6 => (intro w hSw; (try dsimp only at hSw); go_simp; (try with_reducible rfl))
  try simp only [Act.put, lsA, ls0, ls1]
  refine mvY 8 (v := .agg (ecs S b7).toArray) rfl (yieldsIf_load_mid (by first | rfl | (simp only [*]; rfl)) 34 _ rfl w7.heap.size 0 rfl (ecs S b7) _ (fun w0 hw0 => (Q11.out.below hw0).range) Tryz.underlying34 rfl size34) ?_
  try simp only [Act.put, lsA, ls0, ls1]
  refine mvY 9 (v := .agg (ecs S b2).toArray) rfl (yieldsIf_load_mid (by first | rfl | (simp only [*]; rfl)) 34 _ rfl w2.heap.size 0 rfl (ecs S b2) _ (fun w0 hw0 => (P11.out.below hw0).range) Tryz.underlying34 rfl size34) ?_
  try simp only [Act.put, lsA, ls0, ls1]
  refine mvR 10 rfl (fun KK hKK => ?_)
  go_simp
  (with_reducible refine (rsame24t S b7 b2 _ (K11.out.below RB1.out) (S11.out.below RB1.out)).mono ?_)
  rintro e0 y2 ⟨rfl, hb⟩
  have RB2 := hid (RB1.out.trans (hb.mono RB1.out.size))
  clear hb
  refine hKK.out _ _ (RB2.out) (fun hH2 => ?_)
  clear hKK KK
  try simp only [Act.put, lsA, ls0, ls1]
  refine mvA 11 (v := ?hv7) rfl ?hy7 ?hr7
  case hy7 => (intro w hSw; (try dsimp only at hSw); go_simp; (try with_reducible rfl))
  try simp only [Act.put, lsA, ls0, ls1]
  refine mvA 12 (v := ?hv8) rfl ?hy8 ?hr8
  case hy8 => (intro w hSw; (try dsimp only at hSw); go_simp; (try with_reducible rfl))
  try simp only [Act.put, lsA, ls0, ls1]
  refine mvA 13 (v := ?hv9) rfl ?hy9 ?hr9
  case hy9 => (intro w hSw; (try dsimp only at hSw); go_simp; (try with_reducible rfl))
  try simp only [Act.put, lsA, ls0, ls1]
  refine mvA 14 (v := ?hv10) rfl ?hy10 ?hr10
  case hy10 => (intro w hSw; (try dsimp only at hSw); go_simp; (try with_reducible rfl))
  try simp only [Act.put, lsA, ls0, ls1]
  refine mvA 15 (v := ?hv11) rfl ?hy11 ?hr11
  case hy11 => (intro w hSw; (try dsimp only at hSw); go_simp; (try with_reducible rfl))
  try simp only [Act.put, lsA, ls0, ls1]
  refine mvA 16 (v := ?hv12) rfl ?hy12 ?hr12
  case hy12 => (intro w hSw; (try dsimp only at hSw); go_simp; (try with_reducible rfl))
  try simp only [Act.put, lsA, ls0, ls1]
  refine mvY 17 (v := .agg (ecs G b10).toArray) rfl (yieldsIf_load_mid (by first | rfl | (simp only [*]; rfl)) 34 _ rfl w10.heap.size 0 rfl (ecs G b10) _ (fun w0 hw0 => (R11.out.below hw0).range) Tryz.underlying34 rfl size34) ?_
  try simp only [Act.put, lsA, ls0, ls1]
  refine mvY 18 (v := .agg (ecs S b2).toArray) rfl (yieldsIf_load_mid (by first | rfl | (simp only [*]; rfl)) 34 _ rfl w2.heap.size 0 rfl (ecs S b2) _ (fun w0 hw0 => (P11.out.below hw0).range) Tryz.underlying34 rfl size34) ?_
  try simp only [Act.put, lsA, ls0, ls1]
  refine mvR 19 rfl (fun KK hKK => ?_)
  go_simp
  (with_reducible refine (HST.out b2 _ HZ.out (S11.out.below RB2.out) (B11.out.trans (RB2.out.mono B11.out.size))).mono ?_)
  rintro e0 y3 ⟨b12, rfl, hi, hb, hn⟩
  have RB3 := hid (RB2.out.trans (hb.mono RB2.out.size))
  have I9 := hid hi
  clear hi hn
  clear hb
  refine hKK.out _ _ (RB3.out) (fun hH3 => ?_)
  clear hKK KK
  try simp only [Act.put, lsA, ls0, ls1]
  refine mvR 20 rfl (fun KK hKK => ?_)
  go_simp
  (with_reducible refine (rsame24t G b10 b12 _ (J11.out.below RB3.out) I9.out).mono ?_)
  rintro e0 y4 ⟨rfl, hb⟩
  have RB4 := hid (RB3.out.trans (hb.mono RB3.out.size))
  clear I9
  clear hb
  refine hKK.out _ _ (RB4.out) (fun hH4 => ?_)
  clear hKK KK
  try simp only [Act.put, lsA, ls0, ls1]
  refine mvA 21 (v := ?hv13) rfl ?hy13 ?hr13
  case hy13 => (intro w hSw; (try dsimp only at hSw); go_simp; (try with_reducible rfl))
  try simp only [Act.put, lsA, ls0, ls1]
  refine mvA 22 (v := ?hv14) rfl ?hy14 ?hr14
  case hy14 => (intro w hSw; (try dsimp only at hSw); go_simp; (try with_reducible rfl))
  try simp only [Act.put, lsA, ls0, ls1]
  refine mvR 23 rfl (fun KK hKK => ?_)
  go_simp
  (with_reducible refine (lives14 _ (HT.out.below RB4.out)).mono ?_)
  rintro e0 y5 ⟨rfl, hb⟩
  have RB5 := hid (RB4.out.trans (hb.mono RB4.out.size))
  clear hb
  refine hKK.out _ _ (RB5.out) (fun hH5 => ?_)
  clear hKK KK
  try simp only [Act.put, lsA, ls0, ls1]
  refine mvA 24 (v := ?hv15) rfl ?hy15 ?hr15
  case hy15 => (intro w hSw; (try dsimp only at hSw); go_simp; (try with_reducible rfl))
  try simp only [Act.put, lsA, ls0, ls1]
  refine mvA 25 (v := ?hv16) rfl ?hy16 ?hr16
  case hy16 => (intro w hSw; (try dsimp only at hSw); go_simp; (try with_reducible rfl))
  try simp only [Act.put, lsA, ls0, ls1]
  refine wpAnyH_done (by kernel_rfl) ?_ _
  go_wp2
  go_ret
  exact ⟨rfl, B11.out.trans (RB5.out.mono B11.out.size)⟩
theorem signs_walk (E : Ew) (a : Aw) (s : ByteArray) (w : World) (h : IsE w E a) (hss : s.size ≤ 9223372036854775807) (hl : Lt w) : Calls Tryz.prog 6 #[.agg (ecs E a).toArray, .string s] w fun e w' => e = .returned (.bool true) ∧ Below w.heap.size w w' := by
 by_cases e1 : 100 < s.size
 ·exact signs_long E a s w h hss hl (by omega)
 ·by_cases hc : chk7 E = 0
  ·cases te : (s.toList == (srvA E.sd).toList)
   ·exact signs_other E a s w h hss hl (by omega) hc te
   ·exact signs_well E a s w h hss hl (by omega) hc te
  ·exact signs_bad E a s w h hss hl (by omega) hc
end Go.Proofs.YtablocpcgknmaaaGreatDoor
