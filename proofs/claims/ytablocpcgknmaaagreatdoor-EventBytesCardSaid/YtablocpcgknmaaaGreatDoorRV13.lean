/- IdOf, Sign and their references. No condition. -/
import Derived.Test.YtablocpcgknmaaaGreatDoorRPq
namespace Go.Proofs.YtablocpcgknmaaaGreatDoor
open Go.Lib (hid)
open Go Go.RowKit
set_option linter.unusedVariables false
set_option linter.unusedSimpArgs false
set_option maxRecDepth 100000

theorem serverOf_any (s : ByteArray) (hs : s.size ≤ 9223372036854775807) (w : World) : Calls Tryz.prog 127 #[.string s] w fun e w' => e = .returned (.string (srvA s)) ∧ Below w.heap.size w w' := by
 have C := hid (ofAny_any s hs)
 generalize locA s = x at *
 generalize srvA s = y at *
 go_enter Tryz.func127, Tryz.ntmps127
 go_wp2_with (go_at_call 186; refine (C.out _).mono ?_; rintro e w1 ⟨rfl, hb1⟩; have HB := hid hb1; clear hb1)
 go_ret
 exact ⟨rfl, HB.out⟩
theorem kc_sme {s : Int} {C : Cn} (h : SmE C) (j : Nat) : SmE (kc s C j) := by
 unfold kc
 refine ⟨?_, ?_, ?_, ?_, ?_, ?_, ⟨?_, ?_, ?_⟩⟩ <;> dsimp only
 ·split; exact h.tx; exact Nat.zero_le _
 ·split; exact h.via; exact Nat.zero_le _
 ·split; exact h.al; exact Nat.zero_le _
 ·split; exact h.al2; exact fun s hs => (by cases hs)
 ·split; exact h.dn; exact Nat.zero_le _
 ·split; exact h.dn2; exact fun s hs => (by cases hs)
 ·split; exact h.lv.lu; exact Nat.zero_le _
 ·split; exact h.lv.lk; exact Nat.zero_le _
 ·split; exact h.lv.nm; exact fun s hs => (by cases hs)
theorem c0_sme : SmE c0 := ⟨Nat.zero_le _, Nat.zero_le _, Nat.zero_le _, fun s hs => (by cases hs), Nat.zero_le _, fun s hs => (by cases hs), ⟨Nat.zero_le _, Nat.zero_le _, fun s hs => (by cases hs)⟩⟩
theorem strip_sme {k : Int} {C : Cn} (h : SmE C) : SmE (strip k C) := by
 unfold strip
 split
 ·exact kc_sme h 8
 ·exact c0_sme
/-- What an identifier is the sum of. -/
def bareE (E : Ew) : Ew := { E with c := strip E.kd E.c, id := 0, sv := ⟨#[]⟩, sm := 0 }
def idE (E : Ew) : Int := sumI (encE (bareE E))
theorem bare_smz {E : Ew} (h : SmZ E) : SmZ (bareE E) := ⟨h.rm, h.sd, h.ky, Nat.zero_le _, h.pv, h.au, strip_sme h.c⟩
theorem str_smz {E : Ew} (h : SmZ E) : SmZ (strE E) := ⟨h.rm, h.sd, h.ky, h.sv, h.pv, h.au, strip_sme h.c⟩
theorem i64_0 : i64B 0 := by unfold i64B; decide
set_option maxHeartbeats 8000000 in
theorem idOf19 (E : Ew) (a : Aw) (w : World) (h : IsE w E a) (hs : SmZ E) (hl : Lt w) : Calls Tryz.prog 19 #[.agg (ecs E a).toArray] w fun e w' => e = .returned (.int .i64 (idE E)) ∧ Below w.heap.size w w' := by
 have BA := hid ((Below.refl w.heap.size w).alloc (Nat.le_refl _) (.cells (ecs E a).toArray 34))
 have X0 := hid (blk_new w (ecs E a) 34)
 have HE := hid h
 have HC := hid (fun y (hb : Below w.heap.size w y) => strip21 E.kd E.c a.c y (h.c.below hb) hs.c.smc (hl.below hb))
 unfold StN at HC
 have HSZ := hid (bare_smz hs)
 have HD := hid (show bareE E = { E with c := strip E.kd E.c, id := 0, sv := ⟨#[]⟩, sm := 0 } from rfl)
 unfold idE
 generalize bareE E = E3 at HD HSZ ⊢
 generalize strip E.kd E.c = C2 at HC HD
 have HA := hid (h.ap (Nat.le_refl _))
 clear h hs hl
 generalize hW0 : w.alloc (.cells (ecs E a).toArray 34) = W0 at BA X0
 dsimp only [ecs, z29] at hW0 X0 ⊢
 have y3 := X0.out.cell (i := 3) rfl
 go_enter Tryz.func19, Tryz.ntmps19
 go_upto_region 4 with (first
  | (refine wpList_load_mid rfl 30 _ rfl w.heap.size 10 rfl (ccs E.c a.c) _ (X0.out.mid 10 16) Tryz.underlying30 rfl size29 ?_)
  | (go_at_call 53; (with_reducible refine (HC.out W0 BA.out).mono ?_); rintro e w1 ⟨b1, rfl, hi, hb, hn⟩; have K1 := hid hi; have N1 := hid (hn w.heap.size X0.out.lt); have X1 := hid (X0.out.below hb); have B1 := hid (BA.out.trans (hb.mono BA.out.size)); clear hi hn hb HC y3)
  | (refine store_mid_as rfl 30 _ _ rfl w.heap.size 10 (ccs C2 b1).toArray rfl rfl (Blk.thereAt X1.out 10 16 (show (10 : Nat) + 16 ≤ 29 by decide)) size29 (by simp [Value.oneCell']) ?_; intro u1 eu; have X2 := hid (show Blk u1 w.heap.size (ecs (E.wc C2) (a.wc b1)) 34 by rw [eu]; exact set_midl (ccs C2 b1) [.int .i64 E.id, .string E.rm, .string E.sd, .int .i64 E.kd, .bool E.st, .string E.ky, .int .i64 E.tm, .int .i64 E.dp, .slice a.pA E.pv.length a.pC, .slice a.qA E.au.length a.qC] (ccs E.c a.c) [.int .i64 E.hs, .string E.sv, .int .i64 E.sm] w1 X1.out rfl); have B2 := hid (show Below w.heap.size w u1 by rw [eu]; exact below_setAll (Nat.le_refl _) _ _ _ B1.out); have K2 := hid (show IsC u1 C2 b1 by rw [eu]; exact K1.out.otherC _ _ _ N1.out); clear eu K1 X1 B1)
  | (refine store_oneE rfl 3 _ _ rfl w.heap.size 0 (.int .i64 0) (ecs (E.wc C2) (a.wc b1)) 34 rfl rfl X2.out (show (0 : Nat) < 29 by decide) sz3 rfl ?_; intro u2 eu; have X3 := hid (show Blk u2 w.heap.size (ecs { E with c := C2, id := 0 } (a.wc b1)) 34 by rw [eu]; exact X2.out.set 0 _); have B3 := hid (show Below w.heap.size w u2 by rw [eu]; exact B2.out.setCell (p := ⟨w.heap.size, 0, none⟩) (Nat.le_refl _) _); have K3 := hid (show IsC u2 C2 b1 by rw [eu]; exact K2.out.oneC _ _ _ N1.out); clear eu K2 X2 B2)
  | (refine store_mid_as rfl 32 _ _ rfl w.heap.size 27 (#[.string ⟨#[]⟩, .int .i64 0] : Array Value) rfl rfl (Blk.thereAt X3.out 27 2 (show (27 : Nat) + 2 ≤ 29 by decide)) size32 (by simp [Value.oneCell']) ?_; intro u3 eu; have X4 := hid (show Blk u3 w.heap.size (ecs { E with c := C2, id := 0, sv := ⟨#[]⟩, sm := 0 } (a.wc b1)) 34 by rw [eu]; exact set_midl [.string ⟨#[]⟩, .int .i64 0] ((ecs { E with c := C2, id := 0 } (a.wc b1)).take 27) [.string E.sv, .int .i64 E.sm] [] u2 X3.out rfl); have B4 := hid (show Below w.heap.size w u3 by rw [eu]; exact below_setAll (Nat.le_refl _) _ _ _ B3.out); have K4 := hid (show IsC u3 C2 b1 by rw [eu]; exact K3.out.otherC _ _ _ N1.out); clear eu K3 X3 B3)
  | fail)
 have hE := HE.out
 have h4 := hE.below B4.out
 have I4 : IsE u3 { E with c := C2, id := 0, sv := ⟨#[]⟩, sm := 0 } (a.wc b1) := { h4 with c := K4.out, id := i64_0, sm := i64_0, sv := sz0 }
 rw [← HD.out] at I4 X4
 have HN := hid (encode37 E3 (a.wc b1) u3 I4 HSZ.out)
 unfold SlR at HN
 have HLN := hid (encE_bd I4 HSZ.out).2
 obtain ⟨z, hz⟩ : ∃ z, encE E3 = z := ⟨_, rfl⟩
 have HZ := hid hz
 rw [hz] at HN HLN
 clear hz
 clear hE h4 I4 HE
 go_wp2_with (first
  | (refine wpList_load_mid rfl 34 _ rfl w.heap.size 0 rfl (ecs E3 (a.wc b1)) _ X4.out.range Tryz.underlying34 rfl size34 ?_)
  | (go_at_call 37; (with_reducible refine HN.out.mono ?_); rintro e w5 ⟨A5, c5, rfl, hs, hb⟩; have S5 := hid hs; have hl5 := HLN.out; have B5 := hid (B4.out.trans (hb.mono B4.out.size)); clear hs hb)
  | (go_at_call 49; refine (sum49 A5 z.length c5 z w5 S5.out (by omega)).mono ?_; rintro e w6 ⟨rfl, rfl⟩)
  | fail)
 go_ret
 exact ⟨by rw [HZ.out]; rfl, B5.out⟩
/-- The event, signed. -/
def hsdE (E : Ew) : Ew := { E with hs := hshE E }
def sgnE (E : Ew) (s : ByteArray) : Ew := { E with hs := hshE E, id := idE (hsdE E), sv := s, sm := idE (hsdE E) }
theorem idE_in (E : Ew) : i64B (idE E) := sumI_in _
theorem hsd_smz {E : Ew} (h : SmZ E) : SmZ (hsdE E) := ⟨h.rm, h.sd, h.ky, h.sv, h.pv, h.au, h.c⟩
set_option maxHeartbeats 8000000 in
theorem sign26 (E : Ew) (a : Aw) (s : ByteArray) (w : World) (h : IsE w E a) (hs : SmZ E) (hl : Lt w) (hss : s.size ≤ 9223372036854775807) : Calls Tryz.prog 26 #[.agg (ecs E a).toArray, .string s] w (ClN (sgnE E s) w) := by
 unfold ClN
 have BA := hid (((Below.refl w.heap.size w).alloc (Nat.le_refl _) (.cells (ecs E a).toArray 34)).alloc (by simp) (.cells z29.toArray 34))
 have X0 := hid ((blk_new w (ecs E a) 34).alloc (.cells z29.toArray 34))
 have R0 := hid (blk_new2 w (.cells (ecs E a).toArray 34) z29 34)
 have HK := hid (fun y (hb : Below w.heap.size w y) => clone54 E a y (h.below hb) hs.v)
 unfold ClN at HK
 have HH := hid (fun y (hb : Below w.heap.size w y) => hash17 E a y (h.below hb) hs.c)
 have HI := hid (fun b y (hi : IsE y (hsdE E) b) (hb : Below w.heap.size w y) => idOf19 (hsdE E) b y hi (hsd_smz hs) (hl.below hb))
 have HSS := hid hss
 have HID := hid (idE_in (hsdE E))
 have HHI := hid (show i64B (hshE E) from sumI_in _)
 have HD := hid (show sgnE E s = { E with hs := hshE E, id := idE (hsdE E), sv := s, sm := idE (hsdE E) } from rfl)
 have HDH := hid (show hsdE E = { E with hs := hshE E } from rfl)
 generalize sgnE E s = E9 at HD ⊢
 generalize idE (hsdE E) = q at HI HD HID
 generalize hsdE E = E5 at HI HDH
 generalize hshE E = p at HH HD HHI HDH
 clear h hs hl hss
 generalize hW0 : (w.alloc (.cells (ecs E a).toArray 34)).alloc (.cells z29.toArray 34) = W0 at BA X0 R0
 dsimp only [ecs, z29] at hW0 X0 R0 ⊢
 go_enter Tryz.func26, Tryz.ntmps26
 go_upto_region 2 with (first
  | (refine wpList_load_mid rfl 34 _ rfl w.heap.size 0 rfl (ecs E a) _ X0.out.range Tryz.underlying34 rfl size34 ?_)
  | (go_at_call 54; (with_reducible refine (HK.out W0 BA.out).mono ?_); rintro e w1 ⟨b, rfl, hi, hb, hn⟩; have I1 := hid hi; have N1 := hid (fun g hg => hn g (Nat.lt_of_lt_of_le hg R0.out.lt)); have B1 := hid (BA.out.trans (hb.mono BA.out.size)); have X1 := hid (X0.out.below hb); have R1 := hid (R0.out.below hb); clear hi hn hb HK)
  | (refine store_as34 rfl 34 _ _ rfl z29 (ecs E b) rfl rfl rfl size34 (ecs_one _ _) ?_; intro w2 hx hb; have P2 := hid hx; have I2 := hid (I1.out.below hb); have A2 := hid (I1.out.ap (Nat.le_refl w1.heap.size)); have B2 := hid (B1.out.trans (hb.mono B1.out.size)); have X2 := hid (X1.out.below hb); have R2 := hid (R1.out.below hb); have L2 := hid (R1.out.lt); clear hx hb I1 X1 R1)
  | fail)
 go_upto_region 3 with (first
  | (refine wpList_load_mid rfl 34 _ rfl w.heap.size 0 rfl (ecs E a) _ X2.out.range Tryz.underlying34 rfl size34 ?_)
  | (go_at_call 17; (with_reducible refine (HH.out w2 B2.out).mono ?_); rintro e w3 ⟨rfl, hb⟩; have P3 := hid (P2.out.below hb); have I3 := hid (I2.out.below hb); have B3 := hid (B2.out.trans (hb.mono B2.out.size)); have R3 := hid (R2.out.below hb); clear hb HH)
  | (refine store_oneE rfl 3 _ _ rfl w1.heap.size 26 (.int .i64 p) (ecs E b) 34 rfl rfl P3.out (show (26 : Nat) < 29 by decide) sz3 rfl ?_; intro u3 eu; have P4 := hid (show Blk u3 w1.heap.size (ecs { E with hs := p } b) 34 by rw [eu]; exact P3.out.set 26 _); have B4 := hid (show Below w.heap.size w u3 by rw [eu]; exact B3.out.setCell (p := ⟨w1.heap.size, 26, none⟩) B1.out.size _); have I4 := hid (show IsE u3 E b by rw [eu]; exact I3.out.oneE _ _ _ A2.out); have R4 := hid (show Blk u3 (w.heap.size + 1) [.int .i64 0, .string ⟨#[]⟩, .string ⟨#[]⟩, .int .i64 0, .bool false, .string ⟨#[]⟩, .int .i64 0, .int .i64 0, .slice none 0 0, .slice none 0 0, .string ⟨#[]⟩, .int .i64 0, .int .i64 0, .bool false, .string ⟨#[]⟩, .slice none 0 0, .slice none 0 0, .slice none 0 0, .slice none 0 0, .int .i64 0, .int .i64 0, .int .i64 0, .int .i64 0, .int .i64 0, .int .i64 0, .int .i64 0, .int .i64 0, .string ⟨#[]⟩, .int .i64 0] 34 by rw [eu]; exact R3.out.other ⟨w1.heap.size, 26, none⟩ _ (by have := L2.out; show w.heap.size + 1 ≠ w1.heap.size; omega)); clear eu I3 P3 B3 R3)
  | fail)
 have h4 := I4.out
 have J4 := hid (show IsE u3 E5 b by rw [HDH.out]; exact { h4 with hs := HHI.out })
 rw [← HDH.out] at P4
 clear h4
 go_upto_region 4 with (first
  | (refine wpList_load_mid rfl 34 _ rfl w1.heap.size 0 rfl (ecs E5 b) _ P4.out.range Tryz.underlying34 rfl size34 ?_)
  | (go_at_call 19; (with_reducible refine (HI.out b u3 J4.out B4.out).mono ?_); rintro e w5 ⟨rfl, hb⟩; have P5 := hid (P4.out.below hb); have I5 := hid (J4.out.below hb); have B5 := hid (B4.out.trans (hb.mono B4.out.size)); have R5 := hid (R4.out.below hb); clear hb HI)
  | (refine store_oneE rfl 3 _ _ rfl w1.heap.size 0 (.int .i64 q) (ecs E5 b) 34 rfl rfl P5.out (show (0 : Nat) < 29 by decide) sz3 rfl ?_; intro u5 eu; have P6 := hid (show Blk u5 w1.heap.size (ecs { E5 with id := q } b) 34 by rw [eu]; exact P5.out.set 0 _); have B6 := hid (show Below w.heap.size w u5 by rw [eu]; exact B5.out.setCell (p := ⟨w1.heap.size, 0, none⟩) B1.out.size _); have A5 := hid (show ApE w1.heap.size E5 b by rw [HDH.out]; exact ⟨A2.out.pv, A2.out.au, A2.out.c⟩); have I6 := hid (show IsE u5 E5 b by rw [eu]; exact I5.out.oneE _ _ _ A5.out); have R6 := hid (show Blk u5 (w.heap.size + 1) [.int .i64 0, .string ⟨#[]⟩, .string ⟨#[]⟩, .int .i64 0, .bool false, .string ⟨#[]⟩, .int .i64 0, .int .i64 0, .slice none 0 0, .slice none 0 0, .string ⟨#[]⟩, .int .i64 0, .int .i64 0, .bool false, .string ⟨#[]⟩, .slice none 0 0, .slice none 0 0, .slice none 0 0, .slice none 0 0, .int .i64 0, .int .i64 0, .int .i64 0, .int .i64 0, .int .i64 0, .int .i64 0, .int .i64 0, .int .i64 0, .string ⟨#[]⟩, .int .i64 0] 34 by rw [eu]; exact R5.out.other ⟨w1.heap.size, 0, none⟩ _ (by have := L2.out; show w.heap.size + 1 ≠ w1.heap.size; omega)); clear eu I5 P5 B5 R5)
  | fail)
 have y0 := P6.out.cell (i := 0) rfl
 go_upto_region 5 with (first
  | (refine store_mid_as rfl 32 _ _ rfl w1.heap.size 27 (#[.string s, .int .i64 q] : Array Value) rfl rfl (Blk.thereAt P6.out 27 2 (show (27 : Nat) + 2 ≤ 29 by decide)) size32 (by simp [Value.oneCell']) ?_; intro u7 eu; have P7 := hid (show Blk u7 w1.heap.size (ecs { E5 with id := q, sv := s, sm := q } b) 34 by rw [eu]; exact set_midl [.string s, .int .i64 q] ((ecs { E5 with id := q } b).take 27) [.string E5.sv, .int .i64 E5.sm] [] u5 P6.out rfl); have B7 := hid (show Below w.heap.size w u7 by rw [eu]; exact below_setAll B1.out.size _ _ _ B6.out); have I7 := hid (show IsE u7 E5 b by rw [eu]; exact I6.out.otherE _ _ _ A5.out); have R7 := hid (show Blk u7 (w.heap.size + 1) [.int .i64 0, .string ⟨#[]⟩, .string ⟨#[]⟩, .int .i64 0, .bool false, .string ⟨#[]⟩, .int .i64 0, .int .i64 0, .slice none 0 0, .slice none 0 0, .string ⟨#[]⟩, .int .i64 0, .int .i64 0, .bool false, .string ⟨#[]⟩, .slice none 0 0, .slice none 0 0, .slice none 0 0, .slice none 0 0, .int .i64 0, .int .i64 0, .int .i64 0, .int .i64 0, .int .i64 0, .int .i64 0, .int .i64 0, .int .i64 0, .string ⟨#[]⟩, .int .i64 0] 34 by rw [eu]; exact R6.out.otherAll _ _ _ (by have := L2.out; omega)); clear eu I6 P6 B6 R6 y0)
  | fail)
 have h7 := I7.out
 have J7 := hid (show IsE u7 { E5 with id := q, sv := s, sm := q } b from { h7 with id := HID.out, sv := HSS.out, sm := HID.out })
 have HD2 := hid (show E9 = { E5 with id := q, sv := s, sm := q } by rw [HD.out, HDH.out])
 rw [← HD2.out] at J7 P7
 clear h7
 go_wp2_with (first
  | (refine wpList_load_mid rfl 34 _ rfl w1.heap.size 0 rfl (ecs E9 b) _ P7.out.range Tryz.underlying34 rfl size34 ?_)
  | (refine store_mid_as rfl 34 _ _ rfl (w.heap.size + 1) 0 (ecs E9 b).toArray rfl rfl (Blk.there (n := 29) R7.out (Nat.le_refl 29)) size34 (ecs_one _ _) ?_; intro wz ez; have EZ := hid ez; clear ez)
  | fail)
 (try simp only [Exit.inBlock, Exit.then])
 refine bodyPost_ret (results_cell_mid rfl _ _ (w.heap.size + 1) (ecs E9 b) 34 _ rfl (by rw [EZ.out]; exact Blk.setAll R7.out _ rfl) Tryz.underlying34 rfl size34) rfl ?_
 rw [EZ.out]
 have hA : ∀ g, g < w.heap.size + 2 → ApE g E9 b := fun g hg => by rw [HD.out]; exact ⟨(N1.out g (by omega)).pv, (N1.out g (by omega)).au, (N1.out g (by omega)).c⟩
 exact ⟨b, rfl, J7.out.otherE _ _ _ (hA _ (by omega)), below_setAll (Nat.le_succ _) _ _ _ B7.out, fun g hg => hA g (by omega)⟩
end Go.Proofs.YtablocpcgknmaaaGreatDoor
