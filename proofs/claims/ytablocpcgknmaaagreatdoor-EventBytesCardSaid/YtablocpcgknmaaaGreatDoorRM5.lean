/- Decode. No condition. -/
import Derived.Test.YtablocpcgknmaaaGreatDoorRM4
import Derived.Test.YtablocpcgknmaaaGreatDoorRPq
namespace Go.Proofs.YtablocpcgknmaaaGreatDoor
open Go.Lib (hid)
open Go Go.RowKit
set_option linter.unusedVariables false
set_option linter.unusedSimpArgs false
set_option maxRecDepth 100000

theorem Ins.kpR {w w' : World} {A : Option Addr} {n c : Nat} {l : List Int} (h : Ins w A n c l) {rb : Nat} {zs : List Int} {f : Bool} (hr : Rd w rb zs f) (hk : Kp rb w w') : Ins w' A n c l :=
 ⟨h.rws.kpR (by decide) (fun v hv => by unfold rowI at hv; rw [List.mem_singleton] at hv; subst hv; exact ⟨fun _ _ _ e => (by cases e), fun _ e => (by cases e)⟩) hr hk, h.len, h.cap, h.fit⟩
/-- What a decoder gives: the event, its lists where they lie, or nothing. -/
def DvG (o : Option Ew) (w : World) (e : Ending) (w' : World) : Prop := ∃ E b, e = .returned (.tuple #[.agg (ecs E b).toArray, .bool o.isSome]) ∧ IsE w' E b ∧ Below w.heap.size w w' ∧ (o = some E ∨ o = none ∧ E = e0)
set_option maxHeartbeats 32000000 in
theorem decode38 (zs z1 z2 z3 z4 z5 z6 z7 z8 z9 z10 z11 z12 z13 z14 : List Int) (f1 f2 f3 f4 f5 f6 f7 f8 f9 f10 f11 f12 f13 f14 : Bool) (x0 : Int) (x1 : ByteArray) (x2 : ByteArray) (x3 : Int) (x4 : Bool) (x5 : ByteArray) (x6 : Int) (x7 : Int) (x8 : List Int) (x9 : List Int) (x10 : Cn) (x11 : Int) (x12 : ByteArray) (x13 : Int) (e0 : gtkI zs false = (x0, z1, f1)) (e1 : gtkT z1 f1 = (x1, z2, f2)) (e2 : gtkT z2 f2 = (x2, z3, f3)) (e3 : gtkI z3 f3 = (x3, z4, f4)) (e4 : gtk Cd.gb (.bool false) z4 f4 = (.bool x4, z5, f5)) (e5 : gtkT z5 f5 = (x5, z6, f6)) (e6 : gtkI z6 f6 = (x6, z7, f7)) (e7 : gtkI z7 f7 = (x7, z8, f8)) (e8 : gtkN z8 f8 = (x8, z9, f9)) (e9 : gtkN z9 f9 = (x9, z10, f10)) (e10 : gtkC z10 f10 = (x10, z11, f11)) (e11 : gtkI z11 f11 = (x11, z12, f12)) (e12 : gtkT z12 f12 = (x12, z13, f13)) (e13 : gtkI z13 f13 = (x13, z14, f14)) (hz : BZ zs) (q : Bool) (hq : (!f14 && decide (z14.length = 0)) = q) (A : Option Addr) (c : Nat) (w : World) (h : Cd.Sl w A zs.length c zs) : Calls Tryz.prog 38 #[.slice A zs.length c] w (DvG (if q = true then some ⟨x0, x1, x2, x3, x4, x5, x6, x7, x8, x9, x10, x11, x12, x13⟩ else none) w) := by
 obtain ⟨rb, hrb⟩ : ∃ rb, rb = w.heap.size + 1 := ⟨_, rfl⟩
 have HRB := hid hrb
 have b0 := hz.gtkI false
 rw [e0] at b0
 have b1 := b0.2.gtkT f1
 rw [e1] at b1
 have b2 := b1.2.gtkT f2
 rw [e2] at b2
 have b3 := b2.2.gtkI f3
 rw [e3] at b3
 have b4 := bz_gtkB b3.2 f4
 rw [e4] at b4
 have b5 := b4.gtkT f5
 rw [e5] at b5
 have b6 := b5.2.gtkI f6
 rw [e6] at b6
 have b7 := b6.2.gtkI f7
 rw [e7] at b7
 have b8 := b7.2.gtkN f8
 rw [e8] at b8
 have b9 := b8.2.2.gtkN f9
 rw [e9] at b9
 have b10 := b9.2.2.gtkC f10
 rw [e10] at b10
 have b11 := b10.gtkI f11
 rw [e11] at b11
 have b12 := b11.2.gtkT f12
 rw [e12] at b12
 have b13 := b12.2.gtkI f13
 rw [e13] at b13
 dsimp only at b0 b1 b2 b3 b4 b5 b6 b7 b8 b9 b10 b11 b12 b13
 have HT0 := hid (fun y (hr : Rd y rb zs false) => by have := take_int rb zs false y hr hz.2; rw [gtk_int, e0] at this; exact this)
 have HT1 := hid (fun y (hr : Rd y rb z1 f1) => by have := take_str rb z1 f1 y hr b0.2.2; rw [gtk_str, e1] at this; exact this)
 have HT2 := hid (fun y (hr : Rd y rb z2 f2) => by have := take_str rb z2 f2 y hr b1.2.2; rw [gtk_str, e2] at this; exact this)
 have HT3 := hid (fun y (hr : Rd y rb z3 f3) => by have := take_int rb z3 f3 y hr b2.2.2; rw [gtk_int, e3] at this; exact this)
 have HT4 := hid (fun y (hr : Rd y rb z4 f4) => by have := take_bool rb z4 f4 y hr b3.2.2; rw [e4] at this; exact this)
 have HT5 := hid (fun y (hr : Rd y rb z5 f5) => by have := take_str rb z5 f5 y hr b4.2; rw [gtk_str, e5] at this; exact this)
 have HT6 := hid (fun y (hr : Rd y rb z6 f6) => by have := take_int rb z6 f6 y hr b5.2.2; rw [gtk_int, e6] at this; exact this)
 have HT7 := hid (fun y (hr : Rd y rb z7 f7) => by have := take_int rb z7 f7 y hr b6.2.2; rw [gtk_int, e7] at this; exact this)
 have HT8 := hid (fun y (hr : Rd y rb z8 f8) => by have := take_ints rb z8 f8 y hr b7.2.2; rw [e8] at this; exact this)
 have HT9 := hid (fun y (hr : Rd y rb z9 f9) => by have := take_ints rb z9 f9 y hr b8.2.2.2; rw [e9] at this; exact this)
 have HT10 := hid (fun y (hr : Rd y rb z10 f10) => by have := take_content rb z10 f10 y hr b9.2.2.2; rw [e10] at this; exact this)
 have HT11 := hid (fun y (hr : Rd y rb z11 f11) => by have := take_int rb z11 f11 y hr b10.2; rw [gtk_int, e11] at this; exact this)
 have HT12 := hid (fun y (hr : Rd y rb z12 f12) => by have := take_str rb z12 f12 y hr b11.2.2; rw [gtk_str, e12] at this; exact this)
 have HT13 := hid (fun y (hr : Rd y rb z13 f13) => by have := take_int rb z13 f13 y hr b12.2.2; rw [gtk_int, e13] at this; exact this)
 have HX := hid (⟨b0.1, b1.1, b2.1, b3.1, b5.1, b6.1, b7.1, b11.1, b12.1, b13.1, b8.2.1, b9.2.1⟩ : i64B x0 ∧ x1.size ≤ 1000000 ∧ x2.size ≤ 1000000 ∧ i64B x3 ∧ x5.size ≤ 1000000 ∧ i64B x6 ∧ i64B x7 ∧ i64B x11 ∧ x12.size ≤ 1000000 ∧ i64B x13 ∧ x8.length ≤ 800000 ∧ x9.length ≤ 800000)
 have HQ := hid hq
 have XB := hid (blk_new2 w (.cells z29.toArray 34) [.slice A zs.length c, .bool false] 89)
 have G0 := hid ((blk_new w z29 34).alloc (.cells #[.slice A zs.length c, .bool false] 89))
 have BA := hid (((Below.refl w.heap.size w).alloc (Nat.le_refl _) (.cells z29.toArray 34)).alloc (by simp) (.cells #[.slice A zs.length c, .bool false] 89))
 rw [← hrb] at XB
 have R0 := hid (show Rd _ rb zs false from ⟨A, c, XB.out, h.below BA.out⟩)
 have WR := hid (show w.heap.size < rb by omega)
 have B0 := hid (Below.refl rb ((w.alloc (.cells z29.toArray 34)).alloc (.cells #[.slice A zs.length c, .bool false] 89)))
 clear e0 e1 e2 e3 e4 e5 e6 e7 e8 e9 e10 e11 e12 e13 h hrb XB hz hq b0 b1 b2 b3 b4 b5 b6 b7 b8 b9 b10 b11 b12 b13
 generalize hW : (w.alloc (.cells z29.toArray 34)).alloc (.cells #[.slice A zs.length c, .bool false] 89) = W0 at R0 G0 BA B0

 dsimp only [z29] at hW
 go_enter Tryz.func38, Tryz.ntmps38
 go_upto_region 2 with (fail)
 try rw [← HRB.out]
 go_upto_region 3 with (first
  | (go_at_call 69; (with_reducible refine (HT0.out _ R0.out).mono ?_); rintro e y1 ⟨rfl, hr, hb, hk⟩; have R1 := hid hr; have G1 := hid (G0.out.kp (Nat.ne_of_lt WR.out) hk); have B1 := hid (B0.out.trans hb); clear hr hb hk)
  | (go_at_call 71; (with_reducible refine (HT1.out _ R1.out).mono ?_); rintro e y2 ⟨rfl, hr, hb, hk⟩; have R2 := hid hr; have G2 := hid (G1.out.kp (Nat.ne_of_lt WR.out) hk); have B2 := hid (B1.out.trans hb); clear hr hb hk)
  | (go_at_call 71; (with_reducible refine (HT2.out _ R2.out).mono ?_); rintro e y3 ⟨rfl, hr, hb, hk⟩; have R3 := hid hr; have G3 := hid (G2.out.kp (Nat.ne_of_lt WR.out) hk); have B3 := hid (B2.out.trans hb); clear hr hb hk)
  | (go_at_call 69; (with_reducible refine (HT3.out _ R3.out).mono ?_); rintro e y4 ⟨rfl, hr, hb, hk⟩; have R4 := hid hr; have G4 := hid (G3.out.kp (Nat.ne_of_lt WR.out) hk); have B4 := hid (B3.out.trans hb); clear hr hb hk)
  | (go_at_call 73; (with_reducible refine (HT4.out _ R4.out).mono ?_); rintro e y5 ⟨rfl, hr, hb, hk⟩; have R5 := hid hr; have G5 := hid (G4.out.kp (Nat.ne_of_lt WR.out) hk); have B5 := hid (B4.out.trans hb); clear hr hb hk)
  | (go_at_call 71; (with_reducible refine (HT5.out _ R5.out).mono ?_); rintro e y6 ⟨rfl, hr, hb, hk⟩; have R6 := hid hr; have G6 := hid (G5.out.kp (Nat.ne_of_lt WR.out) hk); have B6 := hid (B5.out.trans hb); clear hr hb hk)
  | (go_at_call 69; (with_reducible refine (HT6.out _ R6.out).mono ?_); rintro e y7 ⟨rfl, hr, hb, hk⟩; have R7 := hid hr; have G7 := hid (G6.out.kp (Nat.ne_of_lt WR.out) hk); have B7 := hid (B6.out.trans hb); clear hr hb hk)
  | (go_at_call 69; (with_reducible refine (HT7.out _ R7.out).mono ?_); rintro e y8 ⟨rfl, hr, hb, hk⟩; have R8 := hid hr; have G8 := hid (G7.out.kp (Nat.ne_of_lt WR.out) hk); have B8 := hid (B7.out.trans hb); clear hr hb hk)
  | (go_at_call 75; (with_reducible refine (HT8.out _ R8.out).mono ?_); rintro e y9 ⟨A8, c8, rfl, ht, hr, hb, hk⟩; have R9 := hid hr; have G9 := hid (G8.out.kp (Nat.ne_of_lt WR.out) hk); have B9 := hid (B8.out.trans hb); have P9 := hid (isn_ins ht.1 (Nat.le_trans HX.out.2.2.2.2.2.2.2.2.2.2.1 (by decide))); have N8 := hid (fun b off e => Nat.ne_of_gt (Nat.lt_of_lt_of_le G8.out.lt (ht.2 b off e))); clear hr hb hk ht)
  | (go_at_call 75; (with_reducible refine (HT9.out _ R9.out).mono ?_); rintro e y10 ⟨A9, c9, rfl, ht, hr, hb, hk⟩; have R10 := hid hr; have G10 := hid (G9.out.kp (Nat.ne_of_lt WR.out) hk); have B10 := hid (B9.out.trans hb); have Q10 := hid (isn_ins ht.1 (Nat.le_trans HX.out.2.2.2.2.2.2.2.2.2.2.2 (by decide))); have N9 := hid (fun b off e => Nat.ne_of_gt (Nat.lt_of_lt_of_le G9.out.lt (ht.2 b off e))); have P10 := hid (P9.out.kpR R9.out hk); clear hr hb hk ht)
  | (go_at_call 77; (with_reducible refine (HT10.out _ R10.out).mono ?_); rintro e y11 ⟨aC, rfl, hi, hr, hb, hk, hn⟩; have R11 := hid hr; have G11 := hid (G10.out.kp (Nat.ne_of_lt WR.out) hk); have B11 := hid (B10.out.trans hb); have C11 := hid hi; have N10 := hid (hn _ (Nat.le_of_lt G10.out.lt)); have P11 := hid (P10.out.kpR R10.out hk); have Q11 := hid (Q10.out.kpR R10.out hk); clear hi hr hb hk hn)
  | (go_at_call 69; (with_reducible refine (HT11.out _ R11.out).mono ?_); rintro e y12 ⟨rfl, hr, hb, hk⟩; have R12 := hid hr; have G12 := hid (G11.out.kp (Nat.ne_of_lt WR.out) hk); have B12 := hid (B11.out.trans hb); have P12 := hid (P11.out.kpR R11.out hk); have Q12 := hid (Q11.out.kpR R11.out hk); have C12 := hid (C11.out.kpR R11.out hk); clear hr hb hk)
  | (go_at_call 71; (with_reducible refine (HT12.out _ R12.out).mono ?_); rintro e y13 ⟨rfl, hr, hb, hk⟩; have R13 := hid hr; have G13 := hid (G12.out.kp (Nat.ne_of_lt WR.out) hk); have B13 := hid (B12.out.trans hb); have P13 := hid (P12.out.kpR R12.out hk); have Q13 := hid (Q12.out.kpR R12.out hk); have C13 := hid (C12.out.kpR R12.out hk); clear hr hb hk)
  | (go_at_call 69; (with_reducible refine (HT13.out _ R13.out).mono ?_); rintro e y14 ⟨rfl, hr, hb, hk⟩; have R14 := hid hr; have G14 := hid (G13.out.kp (Nat.ne_of_lt WR.out) hk); have B14 := hid (B13.out.trans hb); have P14 := hid (P13.out.kpR R13.out hk); have Q14 := hid (Q13.out.kpR R13.out hk); have C14 := hid (C13.out.kpR R13.out hk); clear hr hb hk)
  | (refine store_as34 rfl 34 _ _ rfl z29 (ecs ⟨x0, x1, x2, x3, x4, x5, x6, x7, x8, x9, x10, x11, x12, x13⟩ ⟨A8, c8, A9, c9, aC⟩) rfl rfl rfl size34 (ecs_one _ _) ?_; intro y15 hx hb; have F15 := hid hx; have R15 := hid (R14.out.below hb); have G15 := hid (G14.out.below hb); have B15 := hid (B14.out.trans (hb.mono (Nat.le_of_lt R14.out.lt))); have P15 := hid (P14.out.below hb); have Q15 := hid (Q14.out.below hb); have C15 := hid (C14.out.below hb); clear hx hb)
  | fail)
 have HI := hid (show IsE y15 ⟨x0, x1, x2, x3, x4, x5, x6, x7, x8, x9, x10, x11, x12, x13⟩ ⟨A8, c8, A9, c9, aC⟩ from
  { pv := P15.out, au := Q15.out, c := C15.out, rm := Nat.le_trans HX.out.2.1 (by decide), sd := Nat.le_trans HX.out.2.2.1 (by decide), ky := Nat.le_trans HX.out.2.2.2.2.1 (by decide), sv := Nat.le_trans HX.out.2.2.2.2.2.2.2.2.1 (by decide), id := HX.out.1, kd := HX.out.2.2.2.1, tm := HX.out.2.2.2.2.2.1, dp := HX.out.2.2.2.2.2.2.1, hs := HX.out.2.2.2.2.2.2.2.1, sm := HX.out.2.2.2.2.2.2.2.2.2.1 })
 have HN := hid (show ApE w.heap.size ⟨x0, x1, x2, x3, x4, x5, x6, x7, x8, x9, x10, x11, x12, x13⟩ ⟨A8, c8, A9, c9, aC⟩ from ⟨fun _ b off e => N8.out b off e, fun _ b off e => N9.out b off e, N10.out⟩)
 have BW := hid (BA.out.trans (B15.out.mono (Nat.le_of_lt WR.out)))
 clear P15 Q15 C15 N8 N9 N10 HX HT0 HT1 HT2 HT3 HT4 HT5 HT6 HT7 HT8 HT9 HT10 HT11 HT12 HT13
 go_wp2_with (first
  | (go_at_call 78; (with_reducible refine (ended72 rb z14 f14 q HQ.out _ R15.out).mono ?_); rintro e y16 ⟨rfl, rfl⟩; cases q)
  | (refine store_mid_as rfl 34 _ _ rfl w.heap.size 0 (z29.toArray : Array Value) rfl rfl (Blk.there (n := 29) G15.out (Nat.le_refl 29)) size34 (by simp [Value.oneCell']) ?_; intro wz ez; have EZ := hid ez; clear ez)
  | (refine load_mid_g (by rfl) 34 _ rfl _ 0 rfl (ecs ⟨x0, x1, x2, x3, x4, x5, x6, x7, x8, x9, x10, x11, x12, x13⟩ ⟨A8, c8, A9, c9, aC⟩) _ F15.out.range Tryz.underlying34 rfl size34 ?_)
  | (refine store_mid_as rfl 34 _ _ rfl w.heap.size 0 ((ecs ⟨x0, x1, x2, x3, x4, x5, x6, x7, x8, x9, x10, x11, x12, x13⟩ ⟨A8, c8, A9, c9, aC⟩)).toArray rfl rfl (Blk.there (n := 29) G15.out (Nat.le_refl 29)) size34 (ecs_one _ _) ?_; intro wz ez; have EZ := hid ez; clear ez)
  | fail)
 ·(try simp only [Exit.inBlock, Exit.then])
  refine bodyPost_ret (results_cell_tmp_blk rfl _ _ w.heap.size z29 34 _ rfl (by rw [EZ.out]; exact Blk.setAll G15.out _ rfl) Tryz.underlying34 rfl size34) rfl ?_
  rw [EZ.out]
  exact ⟨e0, aw0, rfl, e0_is _, below_setAll (Nat.le_refl _) _ _ _ BW.out, .inr ⟨rfl, rfl⟩⟩
 ·(try simp only [Exit.inBlock, Exit.then])
  refine bodyPost_ret (results_cell_tmp_blk rfl _ _ w.heap.size (ecs ⟨x0, x1, x2, x3, x4, x5, x6, x7, x8, x9, x10, x11, x12, x13⟩ ⟨A8, c8, A9, c9, aC⟩) 34 _ rfl (by rw [EZ.out]; exact Blk.setAll G15.out _ rfl) Tryz.underlying34 rfl size34) rfl ?_
  rw [EZ.out]
  exact ⟨_, _, rfl, HI.out.otherE _ _ _ HN.out, below_setAll (Nat.le_refl _) _ _ _ BW.out, .inl rfl⟩
end Go.Proofs.YtablocpcgknmaaaGreatDoor
namespace Go.Proofs.YtablocpcgknmaaaGreatDoor
open Go Go.RowKit
set_option linter.unusedVariables false
set_option linter.unusedSimpArgs false
set_option maxRecDepth 100000

theorem dt_ent9 {s : ByteArray} (h : s.size ≤ 900000) (r : List Int) : Cd.dt (Cd.ent s ++ r) = some (s, r) := by
 have e : Cd.ent s ++ r = eI (s.size : Int) ++ (Cd.byt s ++ r) := by unfold Cd.ent eI; rw [List.append_assoc]
 unfold Cd.dt
 rw [e, cnt_eI (by rw [List.length_append, Cd.byt_len]; omega) (by omega)]
 simp only [Option.map_some]
 rw [← Cd.byt_len s, List.take_left, List.drop_left, str_byt]
theorem gtkT_ent9 {s : ByteArray} (h : s.size ≤ 900000) (r : List Int) : gtkT (Cd.ent s ++ r) false = (s, r, false) := by
 unfold gtkT
 rw [if_neg (by decide), dt_ent9 h]
theorem gtkB_flag (b : Bool) (r : List Int) : gtkB ([if b then (1 : Int) else 0] ++ r) false = (b, r, false) := by
 cases b <;> rfl
theorem gtkN_enc {l : List Int} (hl : l.length ≤ 1000) (h : ∀ z ∈ l, i64B z) (r : List Int) : gtkN (encJ l ++ r) false = (l, r, false) := by
 unfold gtkN Cd.gis
 rw [if_neg (by decide)]
 have hg := flat_ge eI l (fun z hz => eI_pos (h z hz))
 have e : encJ l ++ r = eI (l.length : Int) ++ ((l.map eI).flatten ++ r) := by
  rw [← List.append_assoc]; rfl
 rw [e, cnt_eI (by rw [List.length_append]; omega) (by omega)]
 simp only [Option.bind_some]
 rw [lst_enc eI Cd.di l r (fun z hz r => di_eI (h z hz) r)]
theorem dC_enc {w : World} {C : Cn} {a : Ads} (hc : IsC w C a) (hs : SmE C) : dC (encC C) = some C := by
 have e0 : encC C = Cd.ent C.tx ++ (eI C.n ++ (eI C.tg ++ ([if C.th then (1 : Int) else 0] ++ (Cd.ent C.via ++ (eI C.al.length ++ (Cd.ents C.al ++ (eI C.dn.length ++ (Cd.ents C.dn ++ encL C.us C.ks (nmL C.d C.x3 C.x4 C.x5 C.x6 C.x7 C.x8))))))))) := by
  unfold encC
  simp only [List.append_assoc]
 have q1 : dk1 (encC C) = (C.tx, eI C.n ++ (eI C.tg ++ ([if C.th then (1 : Int) else 0] ++ (Cd.ent C.via ++ (eI C.al.length ++ (Cd.ents C.al ++ (eI C.dn.length ++ (Cd.ents C.dn ++ (encL C.us C.ks (nmL C.d C.x3 C.x4 C.x5 C.x6 C.x7 C.x8))))))))), false) := by unfold dk1; rw [e0]; exact gtkT_ent hs.tx _
 have q2 : dk2 (encC C) = (C.n, eI C.tg ++ ([if C.th then (1 : Int) else 0] ++ (Cd.ent C.via ++ (eI C.al.length ++ (Cd.ents C.al ++ (eI C.dn.length ++ (Cd.ents C.dn ++ (encL C.us C.ks (nmL C.d C.x3 C.x4 C.x5 C.x6 C.x7 C.x8)))))))), false) := by unfold dk2; rw [q1]; exact gtkI_eI hc.n _
 have q3 : dk3 (encC C) = (C.tg, [if C.th then (1 : Int) else 0] ++ (Cd.ent C.via ++ (eI C.al.length ++ (Cd.ents C.al ++ (eI C.dn.length ++ (Cd.ents C.dn ++ (encL C.us C.ks (nmL C.d C.x3 C.x4 C.x5 C.x6 C.x7 C.x8))))))), false) := by unfold dk3; rw [q2]; exact gtkI_eI hc.tg _
 have q4 : dk4 (encC C) = (C.th, Cd.ent C.via ++ (eI C.al.length ++ (Cd.ents C.al ++ (eI C.dn.length ++ (Cd.ents C.dn ++ (encL C.us C.ks (nmL C.d C.x3 C.x4 C.x5 C.x6 C.x7 C.x8)))))), false) := by unfold dk4; rw [q3]; exact gtkB_flag C.th _
 have q5 : dk5 (encC C) = (C.via, eI C.al.length ++ (Cd.ents C.al ++ (eI C.dn.length ++ (Cd.ents C.dn ++ (encL C.us C.ks (nmL C.d C.x3 C.x4 C.x5 C.x6 C.x7 C.x8))))), false) := by unfold dk5; rw [q4]; exact gtkT_ent hs.via _
 have q6 : dk6 (encC C) = (C.al, eI C.dn.length ++ (Cd.ents C.dn ++ (encL C.us C.ks (nmL C.d C.x3 C.x4 C.x5 C.x6 C.x7 C.x8))), false) := by unfold dk6; rw [q5]; exact gtkL_ents hs.al hs.al2 _
 have q7 : dk7 (encC C) = (C.dn, encL C.us C.ks (nmL C.d C.x3 C.x4 C.x5 C.x6 C.x7 C.x8), false) := by unfold dk7; rw [q6]; exact gtkL_ents hs.dn hs.dn2 _
 unfold dC
 rw [q1, q2, q3, q4, q5, q6, q7]
 dsimp only
 rw [dcL_enc hs.lv (fun p hp => (hc.lv.fu p hp).2) hc.lv.fk hc.lv.nm]
 rfl
theorem gtkC_enc {w : World} {E : Ew} {a : Aw} (h : IsE w E a) (hs : SmZ E) (r : List Int) : gtkC (Cd.ent (ctT E) ++ r) false = (E.c, r, false) := by
 have h1 := gtkT_ent9 (show (ctT E).size ≤ 900000 by have := ctT_sz h hs; omega) r
 unfold gtkC
 rw [h1]
 dsimp only
 rw [show Cd.byt (ctT E) = encC E.c from Cd.byt_str (encC_bd h.c hs.c), dC_enc h.c hs.c]
theorem decode_event {w0 : World} {E : Ew} {a : Aw} (h : IsE w0 E a) (hs : SmZ E) (t : List Int) (hz : BZ (encE E ++ t)) (A : Option Addr) (c : Nat) (w : World) (hS : Cd.Sl w A (encE E ++ t).length c (encE E ++ t)) : Calls Tryz.prog 38 #[.slice A (encE E ++ t).length c] w (DvG (if t.length = 0 then some E else none) w) := by
 have e0 : encE E ++ t = eI E.id ++ (Cd.ent E.rm ++ (Cd.ent E.sd ++ (eI E.kd ++ ([if E.st then (1 : Int) else 0] ++ (Cd.ent E.ky ++ (eI E.tm ++ (eI E.dp ++ (encJ E.pv ++ (encJ E.au ++ (Cd.ent (ctT E) ++ (eI E.hs ++ (Cd.ent E.sv ++ (eI E.sm ++ t))))))))))))) := by
  unfold encE
  simp only [List.append_assoc]
 have hd := decode38 (encE E ++ t) _ _ _ _ _ _ _ _ _ _ _ _ _ _ false false false false false false false false false false false false false false E.id E.rm E.sd E.kd E.st E.ky E.tm E.dp E.pv E.au E.c E.hs E.sv E.sm (by rw [e0]; exact gtkI_eI h.id _) (gtkT_ent hs.rm _) (gtkT_ent hs.sd _) (gtkI_eI h.kd _) (gtkB_one E.st _) (gtkT_ent hs.ky _) (gtkI_eI h.tm _) (gtkI_eI h.dp _) (gtkN_enc (Nat.le_trans hs.pv (by decide)) h.pv.fit _) (gtkN_enc (Nat.le_trans hs.au (by decide)) h.au.fit _) (gtkC_enc h hs _) (gtkI_eI h.hs _) (gtkT_ent hs.sv _) (gtkI_eI h.sm t) hz (decide (t.length = 0)) (by simp) A c w hS
 have e1 : (if decide (t.length = 0) = true then some (⟨E.id, E.rm, E.sd, E.kd, E.st, E.ky, E.tm, E.dp, E.pv, E.au, E.c, E.hs, E.sv, E.sm⟩ : Ew) else none) = if t.length = 0 then some E else none := by
  by_cases ht : t.length = 0
  ·rw [if_pos ht, if_pos (decide_eq_true ht)]
  ·rw [if_neg ht, if_neg (by simpa using ht)]
 rw [e1] at hd
 exact hd
end Go.Proofs.YtablocpcgknmaaaGreatDoor
