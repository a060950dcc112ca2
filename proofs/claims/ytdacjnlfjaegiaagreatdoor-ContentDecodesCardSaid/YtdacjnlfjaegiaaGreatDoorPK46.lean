/- Decode, whatever the bytes. Bounds: at most 800000 bytes. No condition. -/
import Derived.Test.YtdacjnlfjaegiaaGreatDoorPPc
import Derived.Test.YtdacjnlfjaegiaaGreatDoorPK32
namespace Go.Proofs.YtdacjnlfjaegiaaGreatDoor
open Go Go.RowKit
set_option linter.unusedVariables false
set_option linter.unusedSimpArgs false
set_option maxRecDepth 100000

theorem tsn_kp {w w' : World} {B : Nat} {A : Option Addr} {n c : Nat} {l : List ByteArray} (h : Cd.TsN B w A n c l) {rb : Nat} {zs : List Int} {f : Bool} (hr : Rd w rb zs f) (hk : Kp rb w w') : Cd.TsN B w' A n c l := ⟨h.1.kpR hr hk, h.2⟩
theorem tsn_below {w w' : World} {B : Nat} {A : Option Addr} {n c : Nat} {l : List ByteArray} (h : Cd.TsN B w A n c l) (hb : Below w.heap.size w w') : Cd.TsN B w' A n c l := ⟨h.1.below hb, h.2⟩
theorem tsn_low {w : World} {B B' : Nat} {A : Option Addr} {n c : Nat} {l : List ByteArray} (h : Cd.TsN B w A n c l) (hB : B' < B) : Cd.TsN (B' + 1) w A n c l := ⟨h.1, fun b off e => by have := h.2 b off e; omega⟩
set_option maxHeartbeats 32000000 in
theorem decode30 (zs z1 z2 z3 z4 z5 z6 z7 : List Int) (f1 f2 f3 f4 f5 f6 f7 : Bool) (x0 x4 : ByteArray) (x1 x2 : Int) (x3 : Bool) (x5 x6 : List ByteArray) (e0 : gtkT zs false = (x0, z1, f1)) (e1 : gtkI z1 f1 = (x1, z2, f2)) (e2 : gtkI z2 f2 = (x2, z3, f3)) (e3 : gtk Cd.gb (.bool false) z3 f3 = (.bool x3, z4, f4)) (e4 : gtkT z4 f4 = (x4, z5, f5)) (e5 : gtkL z5 f5 = (x5, z6, f6)) (e6 : gtkL z6 f6 = (x6, z7, f7))
    (hz : BZ zs) (A : Option Addr) (c : Nat) (w : World) (h : Cd.Sl w A zs.length c zs) : Calls Tryz.prog 30 #[.slice A zs.length c] w (DcG (dcE x0 x1 x2 x3 x4 x5 x6 (dcL z7 f7)) w) := by
  obtain ⟨rb, hrb⟩ : ∃ rb, rb = w.heap.size + 1 := ⟨_, rfl⟩
  have HRB := Lib.hid hrb
  have b0 := hz.gtkT false
  rw [e0] at b0
  have b1 := b0.2.gtkI f1
  rw [e1] at b1
  have b2 := b1.2.gtkI f2
  rw [e2] at b2
  have b3 := bz_gtkB b2.2 f3
  rw [e3] at b3
  have b4 := b3.gtkT f4
  rw [e4] at b4
  have b5 := b4.2.gtkL f5
  rw [e5] at b5
  have b6 := b5.2.gtkL f6
  rw [e6] at b6
  dsimp only at b0 b1 b2 b3 b4 b5 b6
  have HT0 := Lib.hid (fun y (hr : Rd y rb zs false) => by have := take_str rb zs false y hr hz.2; rw [gtk_str, e0] at this; exact this)
  have HT1 := Lib.hid (fun y (hr : Rd y rb z1 f1) => by have := take_int rb z1 f1 y hr b0.2.2; rw [gtk_int, e1] at this; exact this)
  have HT2 := Lib.hid (fun y (hr : Rd y rb z2 f2) => by have := take_int rb z2 f2 y hr b1.2.2; rw [gtk_int, e2] at this; exact this)
  have HT3 := Lib.hid (fun y (hr : Rd y rb z3 f3) => by have := take_bool rb z3 f3 y hr b2.2.2; rw [e3] at this; exact this)
  have HT4 := Lib.hid (fun y (hr : Rd y rb z4 f4) => by have := take_str rb z4 f4 y hr b3.2; rw [gtk_str, e4] at this; exact this)
  have HT5 := Lib.hid (fun y (hr : Rd y rb z5 f5) => by have := take_textsN rb z5 f5 y hr b4.2.2; rw [e5] at this; exact this)
  have HT6 := Lib.hid (fun y (hr : Rd y rb z6 f6) => by have := take_textsN rb z6 f6 y hr b5.2.2; rw [e6] at this; exact this)
  have HT7 := Lib.hid (fun y (hr : Rd y rb z7 f7) => decode71 rb z7 f7 y hr b6.2.2)
  have HX := Lib.hid (⟨b0.1, b1.1, b2.1, b4.1, b5.1, b6.1⟩ : x0.size ≤ 1000000 ∧ i64B x1 ∧ i64B x2 ∧ x4.size ≤ 1000000 ∧ x5.length ≤ 800000 ∧ x6.length ≤ 800000)
  have HZ7 := Lib.hid b6.2
  have XB := Lib.hid (blk_new2 w (.cells #[.string ⟨#[]⟩, .int .i64 0, .int .i64 0, .bool false, .string ⟨#[]⟩, .slice none 0 0, .slice none 0 0, .slice none 0 0, .slice none 0 0, .int .i64 0, .int .i64 0, .int .i64 0, .int .i64 0, .int .i64 0, .int .i64 0, .int .i64 0] 29) [.slice A zs.length c, .bool false] 77)
  have G0 := Lib.hid ((blk_new w [.string ⟨#[]⟩, .int .i64 0, .int .i64 0, .bool false, .string ⟨#[]⟩, .slice none 0 0, .slice none 0 0, .slice none 0 0, .slice none 0 0, .int .i64 0, .int .i64 0, .int .i64 0, .int .i64 0, .int .i64 0, .int .i64 0, .int .i64 0] 29).alloc (.cells #[.slice A zs.length c, .bool false] 77))
  have BA := Lib.hid (((Below.refl w.heap.size w).alloc (Nat.le_refl _) (.cells #[.string ⟨#[]⟩, .int .i64 0, .int .i64 0, .bool false, .string ⟨#[]⟩, .slice none 0 0, .slice none 0 0, .slice none 0 0, .slice none 0 0, .int .i64 0, .int .i64 0, .int .i64 0, .int .i64 0, .int .i64 0, .int .i64 0, .int .i64 0] 29)).alloc (by simp) (.cells #[.slice A zs.length c, .bool false] 77))
  rw [← hrb] at XB
  have R0 := Lib.hid (show Rd _ rb zs false from ⟨A, c, XB.out, h.below BA.out⟩)
  have WR := Lib.hid (show w.heap.size < rb by omega)
  have B0 := Lib.hid (Below.refl rb ((w.alloc (.cells #[.string ⟨#[]⟩, .int .i64 0, .int .i64 0, .bool false, .string ⟨#[]⟩, .slice none 0 0, .slice none 0 0, .slice none 0 0, .slice none 0 0, .int .i64 0, .int .i64 0, .int .i64 0, .int .i64 0, .int .i64 0, .int .i64 0, .int .i64 0] 29)).alloc (.cells #[.slice A zs.length c, .bool false] 77)))
  clear e0 e1 e2 e3 e4 e5 e6 h hrb XB hz b0 b1 b2 b3 b4 b5 b6
  generalize hW : (w.alloc (.cells #[.string ⟨#[]⟩, .int .i64 0, .int .i64 0, .bool false, .string ⟨#[]⟩, .slice none 0 0, .slice none 0 0, .slice none 0 0, .slice none 0 0, .int .i64 0, .int .i64 0, .int .i64 0, .int .i64 0, .int .i64 0, .int .i64 0, .int .i64 0] 29)).alloc (.cells #[.slice A zs.length c, .bool false] 77) = W0 at R0 G0 BA B0
  go_enter Tryz.func30, Tryz.ntmps30
  go_upto_region 2 with (fail)
  try rw [← HRB.out]
  go_wp2_with (first
    | (go_at_call 63; (with_reducible refine (HT0.out _ R0.out).mono ?_); rintro e y1 ⟨rfl, hr, hb, hk⟩; have R1 := Lib.hid hr; have G1 := Lib.hid (G0.out.kp (Nat.ne_of_lt WR.out) hk); have B1 := Lib.hid (B0.out.trans hb); clear hr hb hk)
    | (go_at_call 65; (with_reducible refine (HT1.out _ R1.out).mono ?_); rintro e y2 ⟨rfl, hr, hb, hk⟩; have R2 := Lib.hid hr; have G2 := Lib.hid (G1.out.kp (Nat.ne_of_lt WR.out) hk); have B2 := Lib.hid (B1.out.trans hb); clear hr hb hk)
    | (go_at_call 65; (with_reducible refine (HT2.out _ R2.out).mono ?_); rintro e y3 ⟨rfl, hr, hb, hk⟩; have R3 := Lib.hid hr; have G3 := Lib.hid (G2.out.kp (Nat.ne_of_lt WR.out) hk); have B3 := Lib.hid (B2.out.trans hb); clear hr hb hk)
    | (go_at_call 67; (with_reducible refine (HT3.out _ R3.out).mono ?_); rintro e y4 ⟨rfl, hr, hb, hk⟩; have R4 := Lib.hid hr; have G4 := Lib.hid (G3.out.kp (Nat.ne_of_lt WR.out) hk); have B4 := Lib.hid (B3.out.trans hb); clear hr hb hk)
    | (go_at_call 63; (with_reducible refine (HT4.out _ R4.out).mono ?_); rintro e y5 ⟨rfl, hr, hb, hk⟩; have R5 := Lib.hid hr; have G5 := Lib.hid (G4.out.kp (Nat.ne_of_lt WR.out) hk); have B5 := Lib.hid (B4.out.trans hb); clear hr hb hk)
    | (go_at_call 69; (with_reducible refine (HT5.out _ R5.out).mono ?_); rintro e y6 ⟨A5, c5, rfl, ht, hr, hb, hk⟩; have R6 := Lib.hid hr; have T5 := Lib.hid (tsn_low ht G5.out.lt); have G6 := Lib.hid (G5.out.kp (Nat.ne_of_lt WR.out) hk); have B6 := Lib.hid (B5.out.trans hb); clear hr hb hk ht)
    | (go_at_call 69; (with_reducible refine (HT6.out _ R6.out).mono ?_); rintro e y7 ⟨A6, c6, rfl, ht, hr, hb, hk⟩; have R7 := Lib.hid hr; have T6 := Lib.hid (tsn_low ht G6.out.lt); have T5b := Lib.hid (tsn_kp T5.out R6.out hk); have G7 := Lib.hid (G6.out.kp (Nat.ne_of_lt WR.out) hk); have B7 := Lib.hid (B6.out.trans hb); clear hr hb hk ht)
    | (go_at_call 71; (with_reducible refine (HT7.out _ R7.out).mono ?_); rintro e y8 ⟨⟨us, ks, d, a3, a4, a5, a6, a7, a8⟩, uA, uC, kA, kC, z9, f9, rfl, hr, hz, hb, hk, hd⟩; have R8 := Lib.hid hr; have G8 := Lib.hid (G7.out.kp (Nat.ne_of_lt WR.out) hk); have B8 := Lib.hid (B7.out.trans hb); have T5c := Lib.hid (tsn_kp T5b.out R7.out hk); have T6c := Lib.hid (tsn_kp T6.out R7.out hk); have HD := Lib.hid (hd.imp id (fun ⟨q1, q2, q3, q4⟩ => (⟨q1, q2, own_low q3 G7.out.lt, own_low q4 G7.out.lt⟩ : _ ∧ _ ∧ y8.ownsRow (w.heap.size + 1) 60 2 (.slice uA us.length uC) us.length (flat us.length (rowU (fU us))) ∧ y8.ownsRow (w.heap.size + 1) 88 2 (.slice kA ks.length kC) ks.length (flat ks.length (rowK (fK ks)))))); clear hr hz hb hk hd; obtain ⟨q, hq⟩ : ∃ q, (!f9 && decide (z9.length = 0)) = q := ⟨_, rfl⟩; have HQ := Lib.hid hq; clear hq; rw [show (lcs (⟨us, ks, d, a3, a4, a5, a6, a7, a8⟩ : Lv) uA uC kA kC).toArray = #[.slice uA us.length uC, .slice kA ks.length kC, .int .i64 d, .int .i64 a3, .int .i64 a4, .int .i64 a5, .int .i64 a6, .int .i64 a7, .int .i64 a8] from rfl])
    | (refine store_as rfl 29 _ _ rfl [.string ⟨#[]⟩, .int .i64 0, .int .i64 0, .bool false, .string ⟨#[]⟩, .slice none 0 0, .slice none 0 0, .slice none 0 0, .slice none 0 0, .int .i64 0, .int .i64 0, .int .i64 0, .int .i64 0, .int .i64 0, .int .i64 0, .int .i64 0] [.string x0, .int .i64 x1, .int .i64 x2, .bool x3, .string x4, .slice A5 x5.length c5, .slice A6 x6.length c6, .slice uA us.length uC, .slice kA ks.length kC, .int .i64 d, .int .i64 a3, .int .i64 a4, .int .i64 a5, .int .i64 a6, .int .i64 a7, .int .i64 a8] rfl rfl rfl size29 (by simp [Value.oneCell']) ?_; intro y9 hx hb; have F9 := Lib.hid hx; have R9 := Lib.hid (R8.out.below hb); have G9 := Lib.hid (G8.out.below hb); have B9 := Lib.hid (B8.out.trans (hb.mono (Nat.le_of_lt R8.out.lt))); have T5d := Lib.hid (tsn_below T5c.out hb); have T6d := Lib.hid (tsn_below T6c.out hb); have HE := Lib.hid (HD.out.imp id (fun ⟨q1, q2, q3, q4⟩ => (⟨q1, q2, row_kp q3 (Kp.below hb w.heap.size) (Nat.lt_succ_self _), row_kp q4 (Kp.below hb w.heap.size) (Nat.lt_succ_self _)⟩ : _ ∧ _ ∧ y9.ownsRow (w.heap.size + 1) 60 2 (.slice uA us.length uC) us.length (flat us.length (rowU (fU us))) ∧ y9.ownsRow (w.heap.size + 1) 88 2 (.slice kA ks.length kC) ks.length (flat ks.length (rowK (fK ks)))))); clear hx hb)
    | (go_at_call 72; (with_reducible refine (ended72 rb z9 f9 q HQ.out _ R9.out).mono ?_); rintro e y10 ⟨rfl, rfl⟩; cases q)
    | (refine store_mid_as rfl 29 _ _ rfl w.heap.size 0 (#[.string ⟨#[]⟩, .int .i64 0, .int .i64 0, .bool false, .string ⟨#[]⟩, .slice none 0 0, .slice none 0 0, .slice none 0 0, .slice none 0 0, .int .i64 0, .int .i64 0, .int .i64 0, .int .i64 0, .int .i64 0, .int .i64 0, .int .i64 0] : Array Value) rfl rfl (Blk.there (n := 16) G9.out (Nat.le_refl 16)) size29 (by simp [Value.oneCell']) ?_; intro wz ez; have EZ := Lib.hid ez; clear ez)
    | (refine wpList_load_mid rfl 29 _ rfl _ 0 rfl [.string x0, .int .i64 x1, .int .i64 x2, .bool x3, .string x4, .slice A5 x5.length c5, .slice A6 x6.length c6, .slice uA us.length uC, .slice kA ks.length kC, .int .i64 d, .int .i64 a3, .int .i64 a4, .int .i64 a5, .int .i64 a6, .int .i64 a7, .int .i64 a8] _ F9.out.range Tryz.underlying29 rfl size29 ?_)
    | (refine store_mid_as rfl 29 _ _ rfl w.heap.size 0 (#[.string x0, .int .i64 x1, .int .i64 x2, .bool x3, .string x4, .slice A5 x5.length c5, .slice A6 x6.length c6, .slice uA us.length uC, .slice kA ks.length kC, .int .i64 d, .int .i64 a3, .int .i64 a4, .int .i64 a5, .int .i64 a6, .int .i64 a7, .int .i64 a8] : Array Value) rfl rfl (Blk.there (n := 16) G9.out (Nat.le_refl 16)) size29 (by simp [Value.oneCell']) ?_; intro wz ez; have EZ := Lib.hid ez; clear ez)
    | fail)
  · (try simp only [Exit.inBlock, Exit.then])
    refine bodyPost_ret (results_cell_tmp_blk rfl _ _ w.heap.size [.string ⟨#[]⟩, .int .i64 0, .int .i64 0, .bool false, .string ⟨#[]⟩, .slice none 0 0, .slice none 0 0, .slice none 0 0, .slice none 0 0, .int .i64 0, .int .i64 0, .int .i64 0, .int .i64 0, .int .i64 0, .int .i64 0, .int .i64 0] 29 _ rfl (by rw [EZ.out]; exact Blk.setAll G9.out _ rfl) Tryz.underlying29 rfl size29) rfl ?_
    rw [EZ.out]
    have hN := dcE_no (x0 := x0) (x1 := x1) (x2 := x2) (x3 := x3) (x4 := x4) (x5 := x5) (x6 := x6) HE.out HQ.out
    rw [hN]
    exact ⟨c0, ad0, rfl, c0_is _, below_setAll (Nat.le_refl _) _ _ _ (BA.out.trans (B9.out.mono (Nat.le_of_lt WR.out))), .inr ⟨rfl, rfl⟩⟩
  · (try simp only [Exit.inBlock, Exit.then])
    refine bodyPost_ret (results_cell_tmp_blk rfl _ _ w.heap.size [.string x0, .int .i64 x1, .int .i64 x2, .bool x3, .string x4, .slice A5 x5.length c5, .slice A6 x6.length c6, .slice uA us.length uC, .slice kA ks.length kC, .int .i64 d, .int .i64 a3, .int .i64 a4, .int .i64 a5, .int .i64 a6, .int .i64 a7, .int .i64 a8] 29 _ rfl (by rw [EZ.out]; exact Blk.setAll G9.out _ rfl) Tryz.underlying29 rfl size29) rfl ?_
    rw [EZ.out]
    obtain ⟨hY, hL, r1, r2⟩ := dcE_yes (x0 := x0) (x1 := x1) (x2 := x2) (x3 := x3) (x4 := x4) (x5 := x5) (x6 := x6) HE.out HQ.out
    rw [hY]
    have hx := HX.out
    refine ⟨⟨x0, x1, x2, x3, x4, x5, x6, us, ks, d, a3, a4, a5, a6, a7, a8⟩, ⟨A5, c5, A6, c6, uA, uC, kA, kC⟩, rfl, ⟨ts_txs (ts_set T5d.out (Nat.lt_succ_self _) _ _).1 hx.2.2.2.2.1, ts_txs (ts_set T6d.out (Nat.lt_succ_self _) _ _).1 hx.2.2.2.2.2, rows_isl (dcL_ok HZ7.out hL).1 (row_kp r1 (kp_all _ _ _ _) (Nat.lt_succ_self _)) (row_kp r2 (kp_all _ _ _ _) (Nat.lt_succ_self _)), by show x0.size ≤ _; have := hx.1; omega, by show x4.size ≤ _; have := hx.2.2.2.1; omega, hx.2.1, hx.2.2.1⟩, below_setAll (Nat.le_refl _) _ _ _ (BA.out.trans (B9.out.mono (Nat.le_of_lt WR.out))), .inl rfl⟩
end Go.Proofs.YtdacjnlfjaegiaaGreatDoor
