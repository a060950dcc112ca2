/- Names and references of events. No condition. -/
import Derived.Test.YtablocpcgknmaaaGreatDoorRPj
import Derived.Test.YtablocpcgknmaaaGreatDoorRK29
namespace Go.Proofs.YtablocpcgknmaaaGreatDoor
open Go.Lib (hid)
open Go Go.RowKit
set_option linter.unusedVariables false
set_option linter.unusedSimpArgs false
set_option maxRecDepth 100000

/-- The Key of a policy event. -/
def polC (c : Int) : Bool := decide (33 ≤ c ∧ c ≤ 126)
def polB (l : List Int) : Bool := decide (1 ≤ l.length ∧ l.length ≤ 32) && l.all polC
def keyB (k : Int) (s : ByteArray) : Bool := if k = 2 then I.mkd 64 (bys s) else if k = 9 then polB (bys s) else true
def nmdB (E : Ew) : Bool := I.mkd 33 (bys E.rm) && I.mkd 64 (bys E.sd) && keyB E.kd E.ky
def refI (p q : List Int) (k : Int) : Int := if 10 < p.length ∨ 8 < q.length then 7 else if (ris (-1) p && ris (-1) q) = false then 8 else if p.length = 0 ∧ ¬ k = 1 then 9 else if k = 1 ∧ 0 < p.length + q.length then 6 else 0
theorem pol_bad {s : ByteArray} {k : Nat} (hk : k < s.size) (h : polC (s[k].toNat : Int) = false) : polB (bys s) = false := by
 unfold polB
 have : (bys s).all polC = false := by
  rw [List.all_eq_false]
  refine ⟨(bys s)[k]'(by rw [bys_len]; exact hk), List.getElem_mem _, ?_⟩
  rw [bys_getE s k hk, h]; decide
 rw [this, Bool.and_false]
theorem pol_no {s : ByteArray} (h : s.size < 1 ∨ 32 < s.size) : polB (bys s) = false := by
 unfold polB
 rw [decide_eq_false (by rw [bys_len]; omega)]; rfl
theorem pol_yes {s : ByteArray} (h1 : 1 ≤ s.size) (h2 : s.size ≤ 32) (h : (bys s).all polC = true) : polB (bys s) = true := by
 unfold polB
 rw [decide_eq_true (by rw [bys_len]; omega), h]; rfl
theorem polC_cases {c : Int} {q : Bool} (h : polC c = q) : (q = false ∧ c < 33) ∨ (q = false ∧ ¬ c < 33 ∧ 126 < c) ∨ (q = true ∧ ¬ c < 33 ∧ ¬ 126 < c) := by
 unfold polC at h
 by_cases h1 : c < 33
 ·exact .inl ⟨by rw [← h]; exact decide_eq_false (by omega), h1⟩
 ·by_cases h2 : 126 < c
  ·exact .inr (.inl ⟨by rw [← h]; exact decide_eq_false (by omega), h1, h2⟩)
  ·exact .inr (.inr ⟨by rw [← h]; exact decide_eq_true (by omega), h1, h2⟩)
set_option maxHeartbeats 2000000 in
theorem policy92 (s : ByteArray) (hs : s.size ≤ 9223372036854775807) (w : World) : Calls Tryz.prog 92 #[.string s] w fun e w' => e = .returned (.bool (polB (bys s))) ∧ w = w' := by
 obtain ⟨q, hq⟩ : ∃ q, polB (bys s) = q := ⟨_, rfl⟩
 have HQ := hid hq
 rw [hq]
 clear hq
 go_enter Tryz.func92, Tryz.ntmps92
 go_wp2
 go_loop [6] (fun i => ∃ k : Nat, k ≤ s.size ∧ i = .int .i64 k ∧ Hid (((bys s).take k).all polC = true)) (fun i => s.size - (intOf i).toNat)
 case atStart => exact ⟨0, Nat.zero_le _, rfl, hid (by rw [List.take_zero]; rfl)⟩
 case round =>
  obtain ⟨k, hk, rfl, HO⟩ := hrel
  by_cases hlt : k < s.size
  ·have hsn := hid (bys_snoc s k hlt)
   obtain ⟨b, hb⟩ : ∃ b, polC (s[k].toNat : Int) = b := ⟨_, rfl⟩
   have HB := hid hb
   rcases polC_cases hb with ⟨h0, g0⟩ | ⟨h0, g0, g1⟩ | ⟨h0, g0, g1⟩
   ·have HF := hid (show q = false by rw [← HQ.out]; exact pol_bad hlt (by rw [hb, h0]))
    clear hb h0
    go_wp2
    go_ret
    exact ⟨ret_bool HF.out.symm, rfl⟩
   ·have HF := hid (show q = false by rw [← HQ.out]; exact pol_bad hlt (by rw [hb, h0]))
    clear hb h0
    go_wp2
    go_ret
    exact ⟨ret_bool HF.out.symm, rfl⟩
   ·have HC := hid (show polC (s[k].toNat : Int) = true by rw [hb, h0])
    clear hb h0
    go_wp2
    go_round
    case rel => exact ⟨k + 1, by omega, by go_num, hid (by rw [hsn.out, I.isPart_snoc, HO.out, HC.out]; rfl)⟩
    case measure => simp [intOf]; omega
  ·have HF := hid (show (bys s).all polC = true by rw [← bys_all, ← HO.out]; congr 2; omega)
   clear hk
   rcases (show s.size < 1 ∨ (1 ≤ s.size ∧ 32 < s.size) ∨ (1 ≤ s.size ∧ s.size ≤ 32) by omega) with u | ⟨u, u2⟩ | ⟨u, u2⟩
   ·have HX := hid (show q = false by rw [← HQ.out]; exact pol_no (by omega))
    go_wp2
    go_ret
    exact ⟨ret_bool (by rw [HX.out]; try (simp; omega)), rfl⟩
   ·have HX := hid (show q = false by rw [← HQ.out]; exact pol_no (by omega))
    go_wp2
    go_ret
    exact ⟨ret_bool (by rw [HX.out]; try (simp; omega)), rfl⟩
   ·have HX := hid (show q = true by rw [← HQ.out]; exact pol_yes u u2 HF.out)
    go_wp2
    go_ret
    exact ⟨ret_bool (by rw [HX.out]; try (simp; omega)), rfl⟩
theorem key_2 (s : ByteArray) : keyB 2 s = I.mkd 64 (bys s) := rfl
theorem key_9 (s : ByteArray) : keyB 9 s = polB (bys s) := rfl
theorem key_o {k : Int} (h2 : ¬ k = 2) (h9 : ¬ k = 9) (s : ByteArray) : keyB k s = true := by unfold keyB; rw [if_neg h2, if_neg h9]
set_option maxHeartbeats 4000000 in
theorem named44 (E : Ew) (a : Aw) (w : World) (h : IsE w E a) : Calls Tryz.prog 44 #[.agg (ecs E a).toArray] w fun e w' => e = .returned (.bool (nmdB E)) ∧ Below w.heap.size w w' := by
 have BA := hid ((Below.refl w.heap.size w).alloc (Nat.le_refl _) (.cells #[.int .i64 E.id, .string E.rm, .string E.sd, .int .i64 E.kd, .bool E.st, .string E.ky, .int .i64 E.tm, .int .i64 E.dp, .slice a.pA E.pv.length a.pC, .slice a.qA E.au.length a.qC, .string E.c.tx, .int .i64 E.c.n, .int .i64 E.c.tg, .bool E.c.th, .string E.c.via, .slice a.c.aA E.c.al.length a.c.aC, .slice a.c.dA E.c.dn.length a.c.dC, .slice a.c.uA E.c.us.length a.c.uC, .slice a.c.kA E.c.ks.length a.c.kC, .int .i64 E.c.d, .int .i64 E.c.x3, .int .i64 E.c.x4, .int .i64 E.c.x5, .int .i64 E.c.x6, .int .i64 E.c.x7, .int .i64 E.c.x8, .int .i64 E.hs, .string E.sv, .int .i64 E.sm] 34))
 have X0 := hid (blk_new w [.int .i64 E.id, .string E.rm, .string E.sd, .int .i64 E.kd, .bool E.st, .string E.ky, .int .i64 E.tm, .int .i64 E.dp, .slice a.pA E.pv.length a.pC, .slice a.qA E.au.length a.qC, .string E.c.tx, .int .i64 E.c.n, .int .i64 E.c.tg, .bool E.c.th, .string E.c.via, .slice a.c.aA E.c.al.length a.c.aC, .slice a.c.dA E.c.dn.length a.c.dC, .slice a.c.uA E.c.us.length a.c.uC, .slice a.c.kA E.c.ks.length a.c.kC, .int .i64 E.c.d, .int .i64 E.c.x3, .int .i64 E.c.x4, .int .i64 E.c.x5, .int .i64 E.c.x6, .int .i64 E.c.x7, .int .i64 E.c.x8, .int .i64 E.hs, .string E.sv, .int .i64 E.sm] 34)
 have HR := hid (fun y => room_any E.rm h.rm y)
 have HU := hid (fun y => user_any E.sd h.sd y)
 have HK := hid (fun y => user_any E.ky h.ky y)
 have HP := hid (fun y => policy92 E.ky h.ky y)
 obtain ⟨q, hq⟩ : ∃ q, nmdB E = q := ⟨_, rfl⟩
 have HQ := hid hq
 rw [hq]
 unfold nmdB at HQ
 clear hq h
 show Calls Tryz.prog 44 #[.agg #[.int .i64 E.id, .string E.rm, .string E.sd, .int .i64 E.kd, .bool E.st, .string E.ky, .int .i64 E.tm, .int .i64 E.dp, .slice a.pA E.pv.length a.pC, .slice a.qA E.au.length a.qC, .string E.c.tx, .int .i64 E.c.n, .int .i64 E.c.tg, .bool E.c.th, .string E.c.via, .slice a.c.aA E.c.al.length a.c.aC, .slice a.c.dA E.c.dn.length a.c.dC, .slice a.c.uA E.c.us.length a.c.uC, .slice a.c.kA E.c.ks.length a.c.kC, .int .i64 E.c.d, .int .i64 E.c.x3, .int .i64 E.c.x4, .int .i64 E.c.x5, .int .i64 E.c.x6, .int .i64 E.c.x7, .int .i64 E.c.x8, .int .i64 E.hs, .string E.sv, .int .i64 E.sm]] w _
 cases h1 : I.mkd 33 (bys E.rm)
 ·rw [h1] at HR HQ
  simp only [err_f] at HR
  have HX := hid (show q = false from HQ.out.symm)
  clear h1
  have y1 := X0.out.cell (i := 1) rfl
  go_enter Tryz.func44, Tryz.ntmps44
  go_wp2_with (first
   | (go_at_call 90; (with_reducible refine (HR.out _).mono ?_); rintro e w1 ⟨rfl, hb⟩; have B1 := hid (BA.out.trans (hb.mono BA.out.size)); have X1 := hid (X0.out.below hb); clear hb y1)
   | fail)
  go_ret
  exact ⟨ret_bool HX.out.symm, B1.out⟩
 ·rw [h1] at HR HQ
  simp only [err_t] at HR
  clear h1
  cases h2 : I.mkd 64 (bys E.sd)
  ·rw [h2] at HU HQ
   simp only [err_f] at HU
   have HX := hid (show q = false from HQ.out.symm)
   clear h2
   have y1 := X0.out.cell (i := 1) rfl
   have y2 := X0.out.cell (i := 2) rfl
   go_enter Tryz.func44, Tryz.ntmps44
   go_wp2_with (first
    | (go_at_call 90; (with_reducible refine (HR.out _).mono ?_); rintro e w1 ⟨rfl, hb⟩; have B1 := hid (BA.out.trans (hb.mono BA.out.size)); have X1 := hid (X0.out.below hb); clear hb y1 y2; have y2 := X1.out.cell (i := 2) rfl)
    | (go_at_call 91; (with_reducible refine (HU.out _).mono ?_); rintro e w2 ⟨rfl, hb⟩; have B2 := hid (B1.out.trans (hb.mono B1.out.size)); have X2 := hid (X1.out.below hb); clear hb y2)
    | fail)
   go_ret
   exact ⟨ret_bool HX.out.symm, B2.out⟩
  ·rw [h2] at HU HQ
   simp only [err_t] at HU
   have HX := hid (show keyB E.kd E.ky = q by rw [← HQ.out]; rfl)
   clear h2 HQ
   have y1 := X0.out.cell (i := 1) rfl
   have y2 := X0.out.cell (i := 2) rfl
   by_cases k2 : E.kd = 2
   ·rw [k2, key_2] at HX
    have q2 : (E.kd == 2) = true := by simpa using k2
    simp only [HX.out] at HK
    clear k2
    cases q
    ·simp only [err_f] at HK
     go_enter Tryz.func44, Tryz.ntmps44
     go_upto_region 3 with (first
      | (go_at_call 90; (with_reducible refine (HR.out _).mono ?_); rintro e w1 ⟨rfl, hb⟩; have B1 := hid (BA.out.trans (hb.mono BA.out.size)); have X1 := hid (X0.out.below hb); clear hb y1 y2; have y2 := X1.out.cell (i := 2) rfl)
      | (go_at_call 91; (with_reducible refine (HU.out _).mono ?_); rintro e w2 ⟨rfl, hb⟩; have B2 := hid (B1.out.trans (hb.mono B1.out.size)); have X2 := hid (X1.out.below hb); clear hb y2; have y3 := X2.out.cell (i := 3) rfl; have y5 := X2.out.cell (i := 5) rfl)
      | fail)
     go_wp2_with (first
      | (go_at_call 91; (with_reducible refine (HK.out _).mono ?_); rintro e w3 ⟨rfl, hb⟩; have B3 := hid (B2.out.trans (hb.mono B2.out.size)); clear hb)
      | fail)
     go_ret
     exact ⟨rfl, B3.out⟩
    ·simp only [err_t] at HK
     go_enter Tryz.func44, Tryz.ntmps44
     go_upto_region 3 with (first
      | (go_at_call 90; (with_reducible refine (HR.out _).mono ?_); rintro e w1 ⟨rfl, hb⟩; have B1 := hid (BA.out.trans (hb.mono BA.out.size)); have X1 := hid (X0.out.below hb); clear hb y1 y2; have y2 := X1.out.cell (i := 2) rfl)
      | (go_at_call 91; (with_reducible refine (HU.out _).mono ?_); rintro e w2 ⟨rfl, hb⟩; have B2 := hid (B1.out.trans (hb.mono B1.out.size)); have X2 := hid (X1.out.below hb); clear hb y2; have y3 := X2.out.cell (i := 3) rfl; have y5 := X2.out.cell (i := 5) rfl)
      | fail)
     go_wp2_with (first
      | (go_at_call 91; (with_reducible refine (HK.out _).mono ?_); rintro e w3 ⟨rfl, hb⟩; have B3 := hid (B2.out.trans (hb.mono B2.out.size)); clear hb)
      | fail)
     go_ret
     exact ⟨rfl, B3.out⟩
   ·have q2 : (E.kd == 2) = false := beq_eq_false_iff_ne.2 k2
    by_cases k9 : E.kd = 9
    ·rw [k9, key_9] at HX
     have q9 : (E.kd == 9) = true := by simpa using k9
     simp only [HX.out] at HP
     clear k2 k9
     go_enter Tryz.func44, Tryz.ntmps44
     go_upto_region 3 with (first
      | (go_at_call 90; (with_reducible refine (HR.out _).mono ?_); rintro e w1 ⟨rfl, hb⟩; have B1 := hid (BA.out.trans (hb.mono BA.out.size)); have X1 := hid (X0.out.below hb); clear hb y1 y2; have y2 := X1.out.cell (i := 2) rfl)
      | (go_at_call 91; (with_reducible refine (HU.out _).mono ?_); rintro e w2 ⟨rfl, hb⟩; have B2 := hid (B1.out.trans (hb.mono B1.out.size)); have X2 := hid (X1.out.below hb); clear hb y2; have y3 := X2.out.cell (i := 3) rfl; have y5 := X2.out.cell (i := 5) rfl)
      | fail)
     go_wp2_with (first
      | (go_at_call 92; (with_reducible refine (HP.out _).mono ?_); rintro e w3 ⟨rfl, rfl⟩)
      | fail)
     go_ret
     exact ⟨rfl, B2.out⟩
    ·have q9 : (E.kd == 9) = false := beq_eq_false_iff_ne.2 k9
     have HY := hid (show q = true by rw [← HX.out]; exact key_o k2 k9 _)
     clear k2 k9
     go_enter Tryz.func44, Tryz.ntmps44
     go_upto_region 3 with (first
      | (go_at_call 90; (with_reducible refine (HR.out _).mono ?_); rintro e w1 ⟨rfl, hb⟩; have B1 := hid (BA.out.trans (hb.mono BA.out.size)); have X1 := hid (X0.out.below hb); clear hb y1 y2; have y2 := X1.out.cell (i := 2) rfl)
      | (go_at_call 91; (with_reducible refine (HU.out _).mono ?_); rintro e w2 ⟨rfl, hb⟩; have B2 := hid (B1.out.trans (hb.mono B1.out.size)); have X2 := hid (X1.out.below hb); clear hb y2; have y3 := X2.out.cell (i := 3) rfl; have y5 := X2.out.cell (i := 5) rfl)
      | fail)
     go_wp2
     go_ret
     exact ⟨ret_bool HY.out.symm, B2.out⟩
set_option maxHeartbeats 8000000 in
theorem refs45 (E : Ew) (a : Aw) (w : World) (h : IsE w E a) : Calls Tryz.prog 45 #[.agg (ecs E a).toArray] w fun e w' => e = .returned (.int .i64 (refI E.pv E.au E.kd)) ∧ Below w.heap.size w w' := by
 have BA := hid ((Below.refl w.heap.size w).alloc (Nat.le_refl _) (.cells #[.int .i64 E.id, .string E.rm, .string E.sd, .int .i64 E.kd, .bool E.st, .string E.ky, .int .i64 E.tm, .int .i64 E.dp, .slice a.pA E.pv.length a.pC, .slice a.qA E.au.length a.qC, .string E.c.tx, .int .i64 E.c.n, .int .i64 E.c.tg, .bool E.c.th, .string E.c.via, .slice a.c.aA E.c.al.length a.c.aC, .slice a.c.dA E.c.dn.length a.c.dC, .slice a.c.uA E.c.us.length a.c.uC, .slice a.c.kA E.c.ks.length a.c.kC, .int .i64 E.c.d, .int .i64 E.c.x3, .int .i64 E.c.x4, .int .i64 E.c.x5, .int .i64 E.c.x6, .int .i64 E.c.x7, .int .i64 E.c.x8, .int .i64 E.hs, .string E.sv, .int .i64 E.sm] 34))
 have X0 := hid (blk_new w [.int .i64 E.id, .string E.rm, .string E.sd, .int .i64 E.kd, .bool E.st, .string E.ky, .int .i64 E.tm, .int .i64 E.dp, .slice a.pA E.pv.length a.pC, .slice a.qA E.au.length a.qC, .string E.c.tx, .int .i64 E.c.n, .int .i64 E.c.tg, .bool E.c.th, .string E.c.via, .slice a.c.aA E.c.al.length a.c.aC, .slice a.c.dA E.c.dn.length a.c.dC, .slice a.c.uA E.c.us.length a.c.uC, .slice a.c.kA E.c.ks.length a.c.kC, .int .i64 E.c.d, .int .i64 E.c.x3, .int .i64 E.c.x4, .int .i64 E.c.x5, .int .i64 E.c.x6, .int .i64 E.c.x7, .int .i64 E.c.x8, .int .i64 E.hs, .string E.sv, .int .i64 E.sm] 34)
 have HP := hid (rise93 a.pA E.pv.length a.pC E.pv _ (h.pv.below BA.out))
 have HA := hid (rise93 a.qA E.au.length a.qC E.au _ (h.au.below BA.out))
 have m1 := h.pv.rws.big
 have m2 := h.au.rws.big
 unfold maxLen at m1 m2
 have y3 := X0.out.cell (i := 3) rfl
 have y8 := X0.out.cell (i := 8) rfl
 have y9 := X0.out.cell (i := 9) rfl
 obtain ⟨r, hr⟩ : ∃ r, refI E.pv E.au E.kd = r := ⟨_, rfl⟩
 have HR := hid hr
 rw [hr]
 unfold refI at HR
 clear hr h
 show Calls Tryz.prog 45 #[.agg #[.int .i64 E.id, .string E.rm, .string E.sd, .int .i64 E.kd, .bool E.st, .string E.ky, .int .i64 E.tm, .int .i64 E.dp, .slice a.pA E.pv.length a.pC, .slice a.qA E.au.length a.qC, .string E.c.tx, .int .i64 E.c.n, .int .i64 E.c.tg, .bool E.c.th, .string E.c.via, .slice a.c.aA E.c.al.length a.c.aC, .slice a.c.dA E.c.dn.length a.c.dC, .slice a.c.uA E.c.us.length a.c.uC, .slice a.c.kA E.c.ks.length a.c.kC, .int .i64 E.c.d, .int .i64 E.c.x3, .int .i64 E.c.x4, .int .i64 E.c.x5, .int .i64 E.c.x6, .int .i64 E.c.x7, .int .i64 E.c.x8, .int .i64 E.hs, .string E.sv, .int .i64 E.sm]] w _
 by_cases p1 : 10 < E.pv.length
 ·have z1 : (10 : Int) < (E.pv.length : Int) := by omega
  have HX := hid (show r = 7 by rw [← HR.out]; exact if_pos (.inl p1))
  clear HR
  go_enter Tryz.func45, Tryz.ntmps45
  go_wp2_with (first
   | (go_at_call 93; (with_reducible refine HP.out.mono ?_); rintro e w1 ⟨rfl, rfl⟩; clear HP)
   | (go_at_call 93; (with_reducible refine HA.out.mono ?_); rintro e w1 ⟨rfl, rfl⟩)
   | fail)
  go_ret
  exact ⟨ret_i HX.out, BA.out⟩
 ·have z1 : ¬ (10 : Int) < (E.pv.length : Int) := by omega
  by_cases p2 : 8 < E.au.length
  ·have z2 : (8 : Int) < (E.au.length : Int) := by omega
   have HX := hid (show r = 7 by rw [← HR.out]; exact if_pos (.inr p2))
   clear HR
   go_enter Tryz.func45, Tryz.ntmps45
   go_wp2_with (first
    | (go_at_call 93; (with_reducible refine HP.out.mono ?_); rintro e w1 ⟨rfl, rfl⟩; clear HP)
    | (go_at_call 93; (with_reducible refine HA.out.mono ?_); rintro e w1 ⟨rfl, rfl⟩)
    | fail)
   go_ret
   exact ⟨ret_i HX.out, BA.out⟩
  ·have z2 : ¬ (8 : Int) < (E.au.length : Int) := by omega
   have HN := hid (show ¬ (10 < E.pv.length ∨ 8 < E.au.length) from fun h => h.elim p1 p2)
   cases c1 : ris (-1) E.pv
   ·rw [c1] at HP HR
    clear c1
    have HX := hid (show r = 8 by rw [← HR.out]; exact (if_neg HN.out).trans (if_pos rfl))
    clear HR
    go_enter Tryz.func45, Tryz.ntmps45
    go_wp2_with (first
     | (go_at_call 93; (with_reducible refine HP.out.mono ?_); rintro e w1 ⟨rfl, rfl⟩; clear HP)
     | (go_at_call 93; (with_reducible refine HA.out.mono ?_); rintro e w1 ⟨rfl, rfl⟩)
     | fail)
    go_ret
    exact ⟨ret_i HX.out, BA.out⟩
   ·rw [c1] at HP HR
    clear c1
    cases c2 : ris (-1) E.au
    ·rw [c2] at HA HR
     clear c2
     have HX := hid (show r = 8 by rw [← HR.out]; exact (if_neg HN.out).trans (if_pos rfl))
     clear HR
     go_enter Tryz.func45, Tryz.ntmps45
     go_wp2_with (first
      | (go_at_call 93; (with_reducible refine HP.out.mono ?_); rintro e w1 ⟨rfl, rfl⟩; clear HP)
      | (go_at_call 93; (with_reducible refine HA.out.mono ?_); rintro e w1 ⟨rfl, rfl⟩)
      | fail)
     go_ret
     exact ⟨ret_i HX.out, BA.out⟩
    ·rw [c2] at HA HR
     clear c2
     have HR2 := hid (show (if E.pv.length = 0 ∧ ¬ E.kd = 1 then 9 else if E.kd = 1 ∧ 0 < E.pv.length + E.au.length then 6 else 0) = r by rw [← HR.out]; exact ((if_neg HN.out).trans (if_neg (by decide))).symm)
     replace HR := HR2
     clear HN HR2
     by_cases k1 : E.kd = 1
     ·have q1 : (E.kd == 1) = true := by simpa using k1
      have q1b : (E.kd != 1) = false := by simp [bne, q1]
      by_cases p3 : E.pv.length = 0
      ·have z3 : ((E.pv.length : Int) == 0) = true := by simpa using p3
       by_cases p4 : E.au.length = 0
       ·have z4 : ¬ (0 : Int) < (E.pv.length : Int) + (E.au.length : Int) := by omega
        have HK := hid k1
        have HX := hid (show r = 0 by rw [← HR.out]; exact (if_neg (fun h => h.2 HK.out)).trans (if_neg (fun h => by omega)))
        clear HR k1 p3 p4
        go_enter Tryz.func45, Tryz.ntmps45
        go_wp2_with (first
         | (go_at_call 93; (with_reducible refine HP.out.mono ?_); rintro e w1 ⟨rfl, rfl⟩; clear HP)
         | (go_at_call 93; (with_reducible refine HA.out.mono ?_); rintro e w1 ⟨rfl, rfl⟩)
         | fail)
        go_ret
        exact ⟨ret_i HX.out, BA.out⟩
       ·have z4 : (0 : Int) < (E.pv.length : Int) + (E.au.length : Int) := by omega
        have HK := hid k1
        have HX := hid (show r = 6 by rw [← HR.out]; exact (if_neg (fun h => h.2 HK.out)).trans (if_pos ⟨HK.out, by omega⟩))
        clear HR k1 p3 p4
        go_enter Tryz.func45, Tryz.ntmps45
        go_wp2_with (first
         | (go_at_call 93; (with_reducible refine HP.out.mono ?_); rintro e w1 ⟨rfl, rfl⟩; clear HP)
         | (go_at_call 93; (with_reducible refine HA.out.mono ?_); rintro e w1 ⟨rfl, rfl⟩)
         | fail)
        go_ret
        exact ⟨ret_i HX.out, BA.out⟩
      ·have z3 : ((E.pv.length : Int) == 0) = false := beq_eq_false_iff_ne.2 (by omega)
       have z4 : (0 : Int) < (E.pv.length : Int) + (E.au.length : Int) := by omega
       have HK := hid k1
       have HX := hid (show r = 6 by rw [← HR.out]; exact (if_neg (fun h => h.2 HK.out)).trans (if_pos ⟨HK.out, by omega⟩))
       clear HR k1 p3
       go_enter Tryz.func45, Tryz.ntmps45
       go_wp2_with (first
        | (go_at_call 93; (with_reducible refine HP.out.mono ?_); rintro e w1 ⟨rfl, rfl⟩; clear HP)
        | (go_at_call 93; (with_reducible refine HA.out.mono ?_); rintro e w1 ⟨rfl, rfl⟩)
        | fail)
       go_ret
       exact ⟨ret_i HX.out, BA.out⟩
     ·have q1 : (E.kd == 1) = false := beq_eq_false_iff_ne.2 k1
      have q1b : (E.kd != 1) = true := by simp [bne, q1]
      by_cases p3 : E.pv.length = 0
      ·have z3 : ((E.pv.length : Int) == 0) = true := by simpa using p3
       have HK := hid k1
       have HX := hid (show r = 9 by rw [← HR.out]; exact if_pos ⟨p3, HK.out⟩)
       clear HR k1 p3
       go_enter Tryz.func45, Tryz.ntmps45
       go_wp2_with (first
        | (go_at_call 93; (with_reducible refine HP.out.mono ?_); rintro e w1 ⟨rfl, rfl⟩; clear HP)
        | (go_at_call 93; (with_reducible refine HA.out.mono ?_); rintro e w1 ⟨rfl, rfl⟩)
        | fail)
       go_ret
       exact ⟨ret_i HX.out, BA.out⟩
      ·have z3 : ((E.pv.length : Int) == 0) = false := beq_eq_false_iff_ne.2 (by omega)
       have HK := hid k1
       have HX := hid (show r = 0 by rw [← HR.out]; exact (if_neg (fun h => p3 h.1)).trans (if_neg (fun h => HK.out h.1)))
       clear HR k1 p3
       go_enter Tryz.func45, Tryz.ntmps45
       go_wp2_with (first
        | (go_at_call 93; (with_reducible refine HP.out.mono ?_); rintro e w1 ⟨rfl, rfl⟩; clear HP)
        | (go_at_call 93; (with_reducible refine HA.out.mono ?_); rintro e w1 ⟨rfl, rfl⟩)
        | fail)
       go_ret
       exact ⟨ret_i HX.out, BA.out⟩
end Go.Proofs.YtablocpcgknmaaaGreatDoor
